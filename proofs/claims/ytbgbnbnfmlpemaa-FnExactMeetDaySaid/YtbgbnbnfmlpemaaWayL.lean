/- Contract of the program's IsWay. -/
import Derived.Test.YtbgbnbnfmlpemaaWayK
namespace Go.Proofs.Ytbgbnbnfmlpemaa.WayI
open Go.RowKit Kit Rw Ld Gr GrI Bfs Wf Sr LandI

/-- One day far is near. -/
theorem dist_one {p h : Nat} {X : List Int} (hL : isLand p h X = true) {a : Int} (h0 : 0 ≤ a) (h1 : a < X.length) {n : Int} (n0 : 0 ≤ n) (n1 : n < X.length) : at' (distL p X a) n = 1 ↔ n ∈ near p a X := by
  have hd := dist_is hL h0 h1
  obtain ⟨hW, _⟩ := isLand_of hL
  constructor
  · intro e
    by_cases hna : n = a
    · subst hna; rw [hd.src] at e; omega
    · obtain ⟨m, m0, m1, m2, m3, m4⟩ := hd.pre n n0 n1 hna (by omega)
      by_cases hma : m = a
      · subst hma; exact m3
      · obtain ⟨q, q0, q1, q2, _, q4⟩ := hd.pre m m0 m1 hma m2
        omega
  · intro hm
    have hs := hd.src
    have := hd.nxt a h0 h1 (by omega) n hm
    by_cases c : at' (distL p X a) n = 0
    · by_cases hna : n = a
      · subst hna; exact absurd hm (near_self hW.1)
      · obtain ⟨q, q0, q1, q2, _, q4⟩ := hd.pre n n0 n1 hna (by omega)
        omega
    · omega
theorem cut_one {p h : Nat} {X : List Int} (hL : isLand p h X = true) {a : Int} (h0 : 0 ≤ a) (h1 : a < X.length) {n : Int} (n0 : 0 ≤ n) (n1 : n < X.length) : at' (cut 1 (distL p X a)) n = 1 ↔ n ∈ near p a X := by
  have hd := dist_is hL h0 h1
  rw [cut_at n0 (by rw [hd.len]; exact n1), ← dist_one hL h0 h1 n0 n1]
  split <;> omega

set_option maxRecDepth 100000 in
set_option maxHeartbeats 1000000 in
theorem isWay_any (w : World) (W H : Int) (v u : Value) (X L : List Int) (hv : Sees .i64 w v X) (hu : Sees .i64 w u L) :
    Calls Try.prog 47 #[.agg #[.int .i64 W, .int .i64 H, v], u] w fun e w' => e = .returned (.bool (isWayOf W H X L)) ∧ w.grownBy w' none := by
  obtain ⟨hb0, hv0, hg0⟩ := wb_new (W := W) (H := H) hv
  have hul := hu.len
  have hdr := grown_drew (World.grownBy.refl (w.alloc (.cells #[.int .i64 W, .int .i64 H, v] 27 (0, 0))) none)
  have HB0 := Lib.hid (hb0.grown hdr)
  have HV0 := Lib.hid (hv0.grown hdr)
  have HG0 := Lib.hid (grownN_trans hg0 hdr)
  have HU0 := Lib.hid (hu.grown (grownN_trans hg0 hdr))
  have HVW := Lib.hid hv
  have HUW := Lib.hid hu
  obtain ⟨va, vn, vc, hvv, HVN⟩ := hv.shape
  subst hvv
  obtain ⟨ua, un, uc, huu, HUN⟩ := hu.shape
  subst huu
  have hun : un ≤ 9223372036854775807 := by rw [← HUN.out]; exact hul
  have hucm : un ≤ uc := by obtain ⟨_, _, e, h1, _⟩ := hu; injection e with e1 e2 e3; rw [← HUN.out]; omega
  obtain ⟨c0, c1, c2⟩ := HB0.out.three
  have HK0 : Hid ((w.alloc (.cells #[.int .i64 W, .int .i64 H, .slice va vn vc] 27 (0, 0))).drew.cell? ⟨w.heap.size, 0, none⟩ = some (.int .i64 W) ∧ (w.alloc (.cells #[.int .i64 W, .int .i64 H, .slice va vn vc] 27 (0, 0))).drew.cell? ⟨w.heap.size, 1, none⟩ = some (.int .i64 H) ∧ (w.alloc (.cells #[.int .i64 W, .int .i64 H, .slice va vn vc] 27 (0, 0))).drew.cell? ⟨w.heap.size, 2, none⟩ = some (.slice va vn vc)) := ⟨c0, c1, c2⟩
  clear hv hb0 hv0 hg0 hdr hul hu c0 c1 c2
  go_enter Try.func47, Try.ntmps47
  by_cases hn0 : un = 0
  · subst hn0
    have HE : Hid (isWayOf W H X L = false) := by
      show _ = _
      unfold isWayOf
      rw [decide_eq_false_iff_not]
      exact fun h => by have := h.1; have := HUN.out; omega
    go_wp2_with fail
    refine wp_region_held_drew (S := fun w' => w'.cell? ⟨w.heap.size, 0, none⟩ = some (.int .i64 W) ∧ w'.cell? ⟨w.heap.size, 1, none⟩ = some (.int .i64 H) ∧ w'.cell? ⟨w.heap.size, 2, none⟩ = some (.slice va vn vc)) (by kernel_rfl) HK0.out (fun hHeld => ?_)
    refine wpAnyH_take (i := 0) (v := ?_) rfl (by kernel_rfl) (by kernel_rfl) (by kernel_rfl) (fun _ _ _ h => h) (Or.inl ⟨by rfl, ?_⟩) (by assumption) ?_; rotate_left; (focus (intro wS hSw; (try dsimp only at hSw); go_simp <;> with_reducible rfl)); (try simp only [Act.put, List.getElem_toArray, List.getElem_cons_succ, List.getElem_cons_zero, List.setIfInBounds_toArray, List.set_cons_zero, List.set_cons_succ])
    refine wpAnyH_take (i := 1) (v := ?_) rfl (by kernel_rfl) (by kernel_rfl) (by kernel_rfl) (fun _ _ _ h => h) (Or.inl ⟨by rfl, ?_⟩) (by assumption) ?_; rotate_left; (focus (intro wS hSw; (try dsimp only at hSw); go_simp <;> with_reducible rfl)); (try simp only [Act.put, List.getElem_toArray, List.getElem_cons_succ, List.getElem_cons_zero, List.setIfInBounds_toArray, List.set_cons_zero, List.set_cons_succ])
    refine wpAnyH_take (i := 2) (v := ?_) rfl (by kernel_rfl) (by kernel_rfl) (by kernel_rfl) (fun _ _ _ h => h) (Or.inl ⟨by rfl, ?_⟩) (by assumption) ?_; rotate_left; (focus (intro wS hSw; (try dsimp only at hSw); go_simp <;> with_reducible rfl)); (try simp only [Act.put, List.getElem_toArray, List.getElem_cons_succ, List.getElem_cons_zero, List.setIfInBounds_toArray, List.set_cons_zero, List.set_cons_succ])
    refine wpAnyH_take (i := 3) (v := ?_) rfl (by kernel_rfl) (by kernel_rfl) (by kernel_rfl) (fun _ _ _ h => h) (Or.inl ⟨by rfl, ?_⟩) (by assumption) ?_; rotate_left; (focus (intro wS hSw; (try dsimp only at hSw); go_simp <;> with_reducible rfl)); (try simp only [Act.put, List.getElem_toArray, List.getElem_cons_succ, List.getElem_cons_zero, List.setIfInBounds_toArray, List.set_cons_zero, List.set_cons_succ])
    refine wpAnyH_take (i := 4) (v := undef) rfl (by kernel_rfl) (by kernel_rfl) (by kernel_rfl) (fun _ _ _ h => h) (Or.inr ⟨by rfl, rfl⟩) (by assumption) ?_; (try simp only [Act.put, List.getElem_toArray, List.getElem_cons_succ, List.getElem_cons_zero, List.setIfInBounds_toArray, List.set_cons_zero, List.set_cons_succ])
    refine wpAnyH_take (i := 5) (v := undef) rfl (by kernel_rfl) (by kernel_rfl) (by kernel_rfl) (fun _ _ _ h => h) (Or.inr ⟨by rfl, rfl⟩) (by assumption) ?_; (try simp only [Act.put, List.getElem_toArray, List.getElem_cons_succ, List.getElem_cons_zero, List.setIfInBounds_toArray, List.set_cons_zero, List.set_cons_succ])
    refine wpAnyH_take (i := 6) (v := undef) rfl (by kernel_rfl) (by kernel_rfl) (by kernel_rfl) (fun _ _ _ h => h) (Or.inr ⟨by rfl, rfl⟩) (by assumption) ?_; (try simp only [Act.put, List.getElem_toArray, List.getElem_cons_succ, List.getElem_cons_zero, List.setIfInBounds_toArray, List.set_cons_zero, List.set_cons_succ])
    refine wpAnyH_take (i := 7) (v := undef) rfl (by kernel_rfl) (by kernel_rfl) (by kernel_rfl) (fun _ _ _ h => h) (Or.inr ⟨by rfl, rfl⟩) (by assumption) ?_; (try simp only [Act.put, List.getElem_toArray, List.getElem_cons_succ, List.getElem_cons_zero, List.setIfInBounds_toArray, List.set_cons_zero, List.set_cons_succ])
    refine wpAnyH_take (i := 8) (v := undef) rfl (by kernel_rfl) (by kernel_rfl) (by kernel_rfl) (fun _ _ _ h => h) (Or.inr ⟨by rfl, rfl⟩) (by assumption) ?_; (try simp only [Act.put, List.getElem_toArray, List.getElem_cons_succ, List.getElem_cons_zero, List.setIfInBounds_toArray, List.set_cons_zero, List.set_cons_succ])
    refine wpAnyH_take (i := 9) (v := undef) rfl (by kernel_rfl) (by kernel_rfl) (by kernel_rfl) (fun _ _ _ h => h) (Or.inr ⟨by rfl, rfl⟩) (by assumption) ?_; (try simp only [Act.put, List.getElem_toArray, List.getElem_cons_succ, List.getElem_cons_zero, List.setIfInBounds_toArray, List.set_cons_zero, List.set_cons_succ])
    refine wpAnyH_take (i := 10) (v := ?_) rfl (by kernel_rfl) (by kernel_rfl) (by kernel_rfl) (fun _ _ _ h => h) (Or.inl ⟨by rfl, ?_⟩) (by assumption) ?_; rotate_left; (focus (intro wS hSw; (try dsimp only at hSw); go_simp <;> with_reducible rfl)); (try simp only [Act.put, List.getElem_toArray, List.getElem_cons_succ, List.getElem_cons_zero, List.setIfInBounds_toArray, List.set_cons_zero, List.set_cons_succ])
    refine wpAnyH_done (by kernel_rfl) ?_ _
    (try simp only [Act.put, List.getElem_toArray, List.getElem_cons_succ, List.getElem_cons_zero, List.setIfInBounds_toArray, List.set_cons_zero, List.set_cons_succ])
    go_wp2
    go_ret
    exact ⟨ret_bool HE.out.symm, HG0.out⟩
  · obtain ⟨ub, uo, rfl, hc0⟩ := HU0.out.at_row (j := 0) (by rw [HUN.out]; omega)
    obtain ⟨x0, hx0⟩ : ∃ x0, x0 = L.getD 0 0 := ⟨_, rfl⟩
    rw [← hx0, Nat.add_zero] at hc0
    have HX0 := Lib.hid hx0
    have HC0 := Lib.hid hc0
    have HNZ := Lib.hid hn0
    have hnb : ((un : Int) == 0) = false := by simp; omega
    have hnp : 0 < un := by omega
    clear hx0 hc0
    have hs := isOpen_any _ W H x0 _ X HV0.out
    by_cases hO : isOpen W H X x0 = true
    rotate_left
    · have hO2 : isOpen W H X x0 = false := by simpa using hO
      have HE : Hid (isWayOf W H X L = false) := by
        show _ = _
        unfold isWayOf
        rw [decide_eq_false_iff_not]
        exact fun h => hO (by rw [HX0.out]; exact h.2.1 0 h.1)
      rw [hO2] at hs
      have HS := Lib.hid hs
      clear hs hO hO2
      go_wp2_with fail
      refine wp_region_held_drew (S := fun w' => w'.cell? ⟨w.heap.size, 0, none⟩ = some (.int .i64 W) ∧ w'.cell? ⟨w.heap.size, 1, none⟩ = some (.int .i64 H) ∧ w'.cell? ⟨w.heap.size, 2, none⟩ = some (.slice va vn vc) ∧ w'.cell? ⟨ub, uo, none⟩ = some (.int .i64 x0)) (by kernel_rfl) ⟨HK0.out.1, HK0.out.2.1, HK0.out.2.2, HC0.out⟩ (fun hHeld => ?_)
      refine wpAnyH_take (i := 0) (v := ?_) rfl (by kernel_rfl) (by kernel_rfl) (by kernel_rfl) (fun _ _ _ h => h) (Or.inl ⟨by rfl, ?_⟩) (by assumption) ?_; rotate_left; (focus (intro wS hSw; (try dsimp only at hSw); go_simp <;> with_reducible rfl)); (try simp only [Act.put, List.getElem_toArray, List.getElem_cons_succ, List.getElem_cons_zero, List.setIfInBounds_toArray, List.set_cons_zero, List.set_cons_succ])
      refine wpAnyH_take (i := 1) (v := ?_) rfl (by kernel_rfl) (by kernel_rfl) (by kernel_rfl) (fun _ _ _ h => h) (Or.inl ⟨by rfl, ?_⟩) (by assumption) ?_; rotate_left; (focus (intro wS hSw; (try dsimp only at hSw); go_simp <;> with_reducible rfl)); (try simp only [Act.put, List.getElem_toArray, List.getElem_cons_succ, List.getElem_cons_zero, List.setIfInBounds_toArray, List.set_cons_zero, List.set_cons_succ])
      refine wpAnyH_take (i := 2) (v := ?_) rfl (by kernel_rfl) (by kernel_rfl) (by kernel_rfl) (fun _ _ _ h => h) (Or.inl ⟨by rfl, ?_⟩) (by assumption) ?_; rotate_left; (focus (intro wS hSw; (try dsimp only at hSw); go_simp <;> with_reducible rfl)); (try simp only [Act.put, List.getElem_toArray, List.getElem_cons_succ, List.getElem_cons_zero, List.setIfInBounds_toArray, List.set_cons_zero, List.set_cons_succ])
      refine wpAnyH_take (i := 3) (v := ?_) rfl (by kernel_rfl) (by kernel_rfl) (by kernel_rfl) (fun _ _ _ h => h) (Or.inl ⟨by rfl, ?_⟩) (by assumption) ?_; rotate_left; (focus (intro wS hSw; (try dsimp only at hSw); go_simp <;> with_reducible rfl)); (try simp only [Act.put, List.getElem_toArray, List.getElem_cons_succ, List.getElem_cons_zero, List.setIfInBounds_toArray, List.set_cons_zero, List.set_cons_succ])
      refine wpAnyH_take (i := 4) (v := ?_) rfl (by kernel_rfl) (by kernel_rfl) (by kernel_rfl) (fun _ _ _ h => h) (Or.inl ⟨by rfl, ?_⟩) (by assumption) ?_; rotate_left; (focus (intro wS hSw; (try dsimp only at hSw); go_simp <;> with_reducible rfl)); (try simp only [Act.put, List.getElem_toArray, List.getElem_cons_succ, List.getElem_cons_zero, List.setIfInBounds_toArray, List.set_cons_zero, List.set_cons_succ])
      refine wpAnyH_take (i := 5) (v := ?_) rfl (by kernel_rfl) (by kernel_rfl) (by kernel_rfl) (fun _ _ _ h => h) (Or.inl ⟨by rfl, ?_⟩) (by assumption) ?_; rotate_left; (focus (intro wS hSw; (try dsimp only at hSw); go_simp <;> with_reducible rfl)); (try simp only [Act.put, List.getElem_toArray, List.getElem_cons_succ, List.getElem_cons_zero, List.setIfInBounds_toArray, List.set_cons_zero, List.set_cons_succ])
      refine wpAnyH_take (i := 6) (v := ?_) rfl (by kernel_rfl) (by kernel_rfl) (by kernel_rfl) (fun _ _ _ h => h) (Or.inl ⟨by rfl, ?_⟩) (by assumption) ?_; rotate_left; (focus (intro wS hSw; (try dsimp only at hSw); go_simp <;> with_reducible rfl)); (try simp only [Act.put, List.getElem_toArray, List.getElem_cons_succ, List.getElem_cons_zero, List.setIfInBounds_toArray, List.set_cons_zero, List.set_cons_succ])
      refine wpAnyH_take (i := 7) (v := ?_) rfl (by kernel_rfl) (by kernel_rfl) (by kernel_rfl) (fun _ _ _ h => h) (Or.inl ⟨by rfl, ?_⟩) (by assumption) ?_; rotate_left; (focus (intro wS hSw; (try dsimp only at hSw); go_simp <;> with_reducible rfl)); (try simp only [Act.put, List.getElem_toArray, List.getElem_cons_succ, List.getElem_cons_zero, List.setIfInBounds_toArray, List.set_cons_zero, List.set_cons_succ])
      refine wpAnyH_ready (rs := [8]) (by kernel_rfl) (by simp) ?_; refine AllReadyH.cons rfl (fun K hK => ?_) AllReadyH.nil; go_simp; (go_at_call 55; refine HS.out.mono ?_; rintro e w2 ⟨rfl, hg2⟩; have HB2 := Lib.hid (HB0.out.grown hg2); have HV2 := Lib.hid (HV0.out.grown hg2); have HU2 := Lib.hid (HU0.out.grown hg2); have HG2 := Lib.hid (grownN_trans HG0.out hg2); have HK2 := Lib.hid (And.intro (hg2.cell HK0.out.1 (by simp)) (And.intro (hg2.cell HK0.out.2.1 (by simp)) (And.intro (hg2.cell HK0.out.2.2 (by simp)) (hg2.cell HC0.out (by simp))))); clear hg2)
      refine hK.out _ _ ?_ (fun hHeld => ?_)
      · exact HK2.out
      clear hK K
      (try simp only [Act.put, List.getElem_toArray, List.getElem_cons_succ, List.getElem_cons_zero, List.setIfInBounds_toArray, List.set_cons_zero, List.set_cons_succ])
      refine wpAnyH_take (i := 9) (v := ?_) rfl (by kernel_rfl) (by kernel_rfl) (by kernel_rfl) (fun _ _ _ h => h) (Or.inl ⟨by rfl, ?_⟩) (by assumption) ?_; rotate_left; (focus (intro wS hSw; (try dsimp only at hSw); go_simp <;> with_reducible rfl)); (try simp only [Act.put, List.getElem_toArray, List.getElem_cons_succ, List.getElem_cons_zero, List.setIfInBounds_toArray, List.set_cons_zero, List.set_cons_succ])
      refine wpAnyH_take (i := 10) (v := ?_) rfl (by kernel_rfl) (by kernel_rfl) (by kernel_rfl) (fun _ _ _ h => h) (Or.inl ⟨by rfl, ?_⟩) (by assumption) ?_; rotate_left; (focus (intro wS hSw; (try dsimp only at hSw); go_simp <;> with_reducible rfl)); (try simp only [Act.put, List.getElem_toArray, List.getElem_cons_succ, List.getElem_cons_zero, List.setIfInBounds_toArray, List.set_cons_zero, List.set_cons_succ])
      refine wpAnyH_done (by kernel_rfl) ?_ _
      (try simp only [Act.put, List.getElem_toArray, List.getElem_cons_succ, List.getElem_cons_zero, List.setIfInBounds_toArray, List.set_cons_zero, List.set_cons_succ])
      go_wp2
      go_ret
      exact ⟨ret_bool HE.out.symm, HG2.out⟩
    rw [hO] at hs
    have HS := Lib.hid hs
    have HO := Lib.hid hO
    clear hs hO
    go_wp2_with fail
    refine wp_region_held_drew (S := fun w' => w'.cell? ⟨w.heap.size, 0, none⟩ = some (.int .i64 W) ∧ w'.cell? ⟨w.heap.size, 1, none⟩ = some (.int .i64 H) ∧ w'.cell? ⟨w.heap.size, 2, none⟩ = some (.slice va vn vc) ∧ w'.cell? ⟨ub, uo, none⟩ = some (.int .i64 x0)) (by kernel_rfl) ⟨HK0.out.1, HK0.out.2.1, HK0.out.2.2, HC0.out⟩ (fun hHeld => ?_)
    refine wpAnyH_take (i := 0) (v := ?_) rfl (by kernel_rfl) (by kernel_rfl) (by kernel_rfl) (fun _ _ _ h => h) (Or.inl ⟨by rfl, ?_⟩) (by assumption) ?_; rotate_left; (focus (intro wS hSw; (try dsimp only at hSw); go_simp <;> with_reducible rfl)); (try simp only [Act.put, List.getElem_toArray, List.getElem_cons_succ, List.getElem_cons_zero, List.setIfInBounds_toArray, List.set_cons_zero, List.set_cons_succ])
    refine wpAnyH_take (i := 1) (v := ?_) rfl (by kernel_rfl) (by kernel_rfl) (by kernel_rfl) (fun _ _ _ h => h) (Or.inl ⟨by rfl, ?_⟩) (by assumption) ?_; rotate_left; (focus (intro wS hSw; (try dsimp only at hSw); go_simp <;> with_reducible rfl)); (try simp only [Act.put, List.getElem_toArray, List.getElem_cons_succ, List.getElem_cons_zero, List.setIfInBounds_toArray, List.set_cons_zero, List.set_cons_succ])
    refine wpAnyH_take (i := 2) (v := ?_) rfl (by kernel_rfl) (by kernel_rfl) (by kernel_rfl) (fun _ _ _ h => h) (Or.inl ⟨by rfl, ?_⟩) (by assumption) ?_; rotate_left; (focus (intro wS hSw; (try dsimp only at hSw); go_simp <;> with_reducible rfl)); (try simp only [Act.put, List.getElem_toArray, List.getElem_cons_succ, List.getElem_cons_zero, List.setIfInBounds_toArray, List.set_cons_zero, List.set_cons_succ])
    refine wpAnyH_take (i := 3) (v := ?_) rfl (by kernel_rfl) (by kernel_rfl) (by kernel_rfl) (fun _ _ _ h => h) (Or.inl ⟨by rfl, ?_⟩) (by assumption) ?_; rotate_left; (focus (intro wS hSw; (try dsimp only at hSw); go_simp <;> with_reducible rfl)); (try simp only [Act.put, List.getElem_toArray, List.getElem_cons_succ, List.getElem_cons_zero, List.setIfInBounds_toArray, List.set_cons_zero, List.set_cons_succ])
    refine wpAnyH_take (i := 4) (v := ?_) rfl (by kernel_rfl) (by kernel_rfl) (by kernel_rfl) (fun _ _ _ h => h) (Or.inl ⟨by rfl, ?_⟩) (by assumption) ?_; rotate_left; (focus (intro wS hSw; (try dsimp only at hSw); go_simp <;> with_reducible rfl)); (try simp only [Act.put, List.getElem_toArray, List.getElem_cons_succ, List.getElem_cons_zero, List.setIfInBounds_toArray, List.set_cons_zero, List.set_cons_succ])
    refine wpAnyH_take (i := 5) (v := ?_) rfl (by kernel_rfl) (by kernel_rfl) (by kernel_rfl) (fun _ _ _ h => h) (Or.inl ⟨by rfl, ?_⟩) (by assumption) ?_; rotate_left; (focus (intro wS hSw; (try dsimp only at hSw); go_simp <;> with_reducible rfl)); (try simp only [Act.put, List.getElem_toArray, List.getElem_cons_succ, List.getElem_cons_zero, List.setIfInBounds_toArray, List.set_cons_zero, List.set_cons_succ])
    refine wpAnyH_take (i := 6) (v := ?_) rfl (by kernel_rfl) (by kernel_rfl) (by kernel_rfl) (fun _ _ _ h => h) (Or.inl ⟨by rfl, ?_⟩) (by assumption) ?_; rotate_left; (focus (intro wS hSw; (try dsimp only at hSw); go_simp <;> with_reducible rfl)); (try simp only [Act.put, List.getElem_toArray, List.getElem_cons_succ, List.getElem_cons_zero, List.setIfInBounds_toArray, List.set_cons_zero, List.set_cons_succ])
    refine wpAnyH_take (i := 7) (v := ?_) rfl (by kernel_rfl) (by kernel_rfl) (by kernel_rfl) (fun _ _ _ h => h) (Or.inl ⟨by rfl, ?_⟩) (by assumption) ?_; rotate_left; (focus (intro wS hSw; (try dsimp only at hSw); go_simp <;> with_reducible rfl)); (try simp only [Act.put, List.getElem_toArray, List.getElem_cons_succ, List.getElem_cons_zero, List.setIfInBounds_toArray, List.set_cons_zero, List.set_cons_succ])
    refine wpAnyH_ready (rs := [8]) (by kernel_rfl) (by simp) ?_; refine AllReadyH.cons rfl (fun K hK => ?_) AllReadyH.nil; go_simp; (go_at_call 55; refine HS.out.mono ?_; rintro e w2 ⟨rfl, hg2⟩; have HB2 := Lib.hid (HB0.out.grown hg2); have HV2 := Lib.hid (HV0.out.grown hg2); have HU2 := Lib.hid (HU0.out.grown hg2); have HG2 := Lib.hid (grownN_trans HG0.out hg2); have HK2 := Lib.hid (And.intro (hg2.cell HK0.out.1 (by simp)) (And.intro (hg2.cell HK0.out.2.1 (by simp)) (And.intro (hg2.cell HK0.out.2.2 (by simp)) (hg2.cell HC0.out (by simp))))); clear hg2)
    refine hK.out _ _ ?_ (fun hHeld => ?_)
    · exact HK2.out
    clear hK K
    (try simp only [Act.put, List.getElem_toArray, List.getElem_cons_succ, List.getElem_cons_zero, List.setIfInBounds_toArray, List.set_cons_zero, List.set_cons_succ])
    refine wpAnyH_take (i := 9) (v := ?_) rfl (by kernel_rfl) (by kernel_rfl) (by kernel_rfl) (fun _ _ _ h => h) (Or.inl ⟨by rfl, ?_⟩) (by assumption) ?_; rotate_left; (focus (intro wS hSw; (try dsimp only at hSw); go_simp <;> with_reducible rfl)); (try simp only [Act.put, List.getElem_toArray, List.getElem_cons_succ, List.getElem_cons_zero, List.setIfInBounds_toArray, List.set_cons_zero, List.set_cons_succ])
    refine wpAnyH_take (i := 10) (v := ?_) rfl (by kernel_rfl) (by kernel_rfl) (by kernel_rfl) (fun _ _ _ h => h) (Or.inl ⟨by rfl, ?_⟩) (by assumption) ?_; rotate_left; (focus (intro wS hSw; (try dsimp only at hSw); go_simp <;> with_reducible rfl)); (try simp only [Act.put, List.getElem_toArray, List.getElem_cons_succ, List.getElem_cons_zero, List.setIfInBounds_toArray, List.set_cons_zero, List.set_cons_succ])
    refine wpAnyH_done (by kernel_rfl) ?_ _
    (try simp only [Act.put, List.getElem_toArray, List.getElem_cons_succ, List.getElem_cons_zero, List.setIfInBounds_toArray, List.set_cons_zero, List.set_cons_succ])
    obtain ⟨p, h, f0, rfl, rfl, rfl, hn, hL, h64, _⟩ := open_nat HO.out
    have HL : Hid (isLand p h X = true ∧ f0 < X.length ∧ X.length ≤ 64) := ⟨hL, hn, h64⟩
    clear HB0 HV0 HU0 HG0 HK0 HS hn hL h64
    obtain ⟨c0, c1, c2⟩ := HB2.out.three
    go_wp2_with fail
    refine (searchIn_any w2 p h _ X HV2.out HL.out.1).mono ?_
    rintro e w4 ⟨bb, rfl, hle, hS, hg⟩
    have HG4 := Lib.hid (grownN_trans HG2.out hg)
    have HB4 := Lib.hid (HB2.out.grown hg)
    have HV4 := Lib.hid (HV2.out.grown hg)
    have HU4 := Lib.hid (HU2.out.grown hg)
    have HLE : Hid (w.heap.size + 1 ≤ bb) := Nat.le_trans (by have := HB2.out.lt; omega) hle
    have HS4 := Lib.hid hS
    clear hle hS hg c0 c1 c2
    obtain ⟨c0, c1, c2⟩ := HB4.out.three
    obtain ⟨m1, hm1⟩ : ∃ m1, un = m1 + 1 := ⟨un - 1, by omega⟩
    subst hm1
    have HW0 : Hid ((∀ i, i ≤ 0 → isOpen p h X (L.getD i 0) = true) ∧ ∀ i, i < 0 → L.getD (i + 1) 0 ∈ near p (L.getD i 0) X) := ⟨fun i hi => by rw [show i = 0 by omega, ← HX0.out]; exact HO.out, fun i hi => absurd hi (Nat.not_lt_zero _)⟩
    have hfin : (∀ i, i ≤ m1 → isOpen p h X (L.getD i 0) = true) ∧ (∀ i, i < m1 → L.getD (i + 1) 0 ∈ near p (L.getD i 0) X) → isWayOf p h X L = true := fun hh => by
      have hl := HUN.out
      exact isWayOf_yes ⟨by omega, fun i hi => hh.1 i (by omega), fun i hi => hh.2 i (by omega)⟩
    have HFIN := Lib.hid hfin
    clear hfin
    by_cases huc : uc = 1
    · have hm0 : m1 = 0 := by omega
      subst hm0
      have HE := Lib.hid (HFIN.out HW0.out)
      go_wp2_with fail
      refine wp_loop_rounds 1 ?_
      rw [rounds_succ]
      go_wp2
      go_ret
      exact ⟨ret_bool HE.out.symm, HG4.out⟩
    clear hnb hnp hn0 HC0 HK2 HU2 HV2 HB2 HG2 HNZ
    go_wp2_with fail
    clear c0 c1 c2
    go_loopw [24] (fun s24 wz => ∃ (k : Nat) (qv : Value) (Q M : List Int), k ≤ m1 ∧ s24 = .int .i64 k ∧ Hid (SB wz bb p (grid p X) qv Q M) ∧ Hid (w.grownBy wz none) ∧ Hid (Box wz w.heap.size #[.int .i64 (p : Int), .int .i64 (h : Int), .slice va vn vc] 27) ∧ Hid ((∀ i, i ≤ k → isOpen p h X (L.getD i 0) = true) ∧ ∀ i, i < k → L.getD (i + 1) 0 ∈ near p (L.getD i 0) X)) (fun s24 _ => m1 - (intOf s24).toNat)
    case atStart => exact ⟨0, _, _, _, Nat.zero_le _, rfl, HS4, HG4, HB4, HW0⟩
    case round =>
      obtain ⟨k, qv, Q, M, hk, rfl, HS, HG, HB, HW⟩ := hrel
      clear HS4 HG4 HB4 HW0 HV4 HU4
      by_cases hlt : k < m1
      · obtain ⟨p1, h1, yn, hp1, hh1, hy, hyn, _, _, _⟩ := open_nat (HW.out.1 k (Nat.le_refl _))
        obtain ⟨x, hx⟩ : ∃ x, x = L.getD (k + 1) 0 := ⟨_, rfl⟩
        have hUr := HUW.out.grown HG.out
        have cw := hUr.at' (j := k) (by rw [HUN.out]; omega)
        have cr := hUr.at' (j := k + 1) (by rw [HUN.out]; omega)
        rw [hy] at cw
        rw [← hx, show uo + (k + 1) = uo + 1 + k by omega] at cr
        have HX := Lib.hid hx
        have HY := Lib.hid hy
        have HYN := Lib.hid hyn
        have hkm : (k : Int) < (m1 : Int) := by omega
        have hkm1 : (k : Int) < (m1 : Int) + 1 := by omega
        have hkn : k < m1 + 1 := by omega
        clear hUr hx hy hyn hp1 hh1
        go_wp2_with fail
        refine (begin_any wr bb p h yn X 1 Q M qv HS.out HL.out.1 HYN.out (by omega)).mono ?_
        rintro e w5 ⟨rfl, qv', Q', M', hS, hM, hb⟩
        have HS5 := Lib.hid hS
        have HM5 := Lib.hid hM
        have HG5 := Lib.hid (search_on HG.out (Nat.le_of_succ_le HLE.out) hb)
        have HB5 : Hid (Box w5 w.heap.size #[.int .i64 (p : Int), .int .i64 (h : Int), .slice va vn vc] 27) := (hb.block _ (by have := HLE.out; omega)).trans HB.out
        clear hS hM hb cw cr
        obtain ⟨c0, c1, c2⟩ := HB5.out.three
        have hs := isOpen_any w5 p h x _ X (HVW.out.grown HG5.out)
        by_cases hO : isOpen p h X x = true
        rotate_left
        · have hO2 : isOpen p h X x = false := by simpa using hO
          have HE : Hid (isWayOf p h X L = false) := by
            show _ = _
            unfold isWayOf
            rw [decide_eq_false_iff_not]
            exact fun h => hO (by rw [HX.out]; exact h.2.1 (k + 1) (by rw [HUN.out]; omega))
          rw [hO2] at hs
          have HS := Lib.hid hs
          clear hs hO hO2
          go_wp2_with fail
          refine HS.out.mono ?_
          rintro e w6 ⟨rfl, hg6⟩
          go_wp2
          go_ret
          exact ⟨ret_bool HE.out.symm, grownN_trans HG5.out hg6⟩
        rw [hO] at hs
        have HS6 := Lib.hid hs
        have HO6 := Lib.hid hO
        clear hs hO
        go_wp2_with fail
        refine HS6.out.mono ?_
        rintro e w6 ⟨rfl, hg6⟩
        have HSB := Lib.hid (HS5.out.on hg6)
        have HGB := Lib.hid (grownN_trans HG5.out hg6)
        have HBB := Lib.hid (HB5.out.grown hg6)
        clear hg6 c0 c1 c2
        obtain ⟨p2, h2, xn, hp2, hh2, hxn, hxl, _, _, _⟩ := open_nat HO6.out
        subst hxn
        have HXL := Lib.hid hxl
        have hone := cut_one HL.out.1 (a := (yn : Int)) (by omega) (by have := HYN.out; omega) (n := (xn : Int)) (by omega) (by omega)
        have hk1 := dist_bnd HL.out.1 HYN.out HL.out.2.2 (xn : Int) (by omega) (by omega)
        have hdl := (dist_is HL.out.1 (a := (yn : Int)) (by omega) (by have := HYN.out; omega)).len
        have hcb : -1 ≤ at' (cut 1 (distL p X yn)) (xn : Int) ∧ at' (cut 1 (distL p X yn)) (xn : Int) ≤ 64 := by rw [cut_at (by omega) (by rw [hdl]; omega)]; split <;> omega
        obtain ⟨y, hy⟩ : ∃ y, y = at' (cut 1 (distL p X yn)) (xn : Int) := ⟨_, rfl⟩
        rw [← hy] at hone hcb
        have HYV := Lib.hid hy
        have HONE := Lib.hid hone
        have HCB := Lib.hid hcb
        have hxn64 : xn < 64 := by have := HL.out.2.2; omega
        clear hp2 hh2 hxl hone hk1 hdl hcb hy
        go_wp2_with fail
        refine (daysTo_any w6 bb p xn _ Q' M' qv' y HSB.out (sq_100 HL.out.1 HXL.out).1 hxn64 (sq_100 HL.out.1 HXL.out).2 (by rw [HM5.out.at_ xn HXL.out, HYV.out]) (by have := HCB.out; omega)).mono ?_
        rintro e w7 ⟨rfl, hg7⟩
        have HSB7 := Lib.hid (HSB.out.on hg7)
        have HGB7 := Lib.hid (grownN_trans HGB.out hg7)
        have HBB7 := Lib.hid (HBB.out.grown hg7)
        clear hg7
        by_cases hy1 : y = 1
        · have hyb : (y == 1) = true := by simpa using hy1
          have hyb2 : (y != 1) = false := by simpa using hy1
          go_wp2
          go_roundw
          case rel =>
            refine ⟨k + 1, qv', Q', M', by omega, by go_num, HSB7, HGB7, HBB7, fun i hi => ?_, fun i hi => ?_⟩
            · by_cases e : i = k + 1
              · rw [e, ← HX.out]; exact HO6.out
              · exact HW.out.1 i (by omega)
            · by_cases e : i = k
              · rw [e, ← HX.out, HY.out]; exact HONE.out.1 hy1
              · exact HW.out.2 i (by omega)
          case measure => simp [intOf]; omega
        · have hyb : (y == 1) = false := by simpa using hy1
          have hyb2 : (y != 1) = true := by simpa using hy1
          have HE : Hid (isWayOf p h X L = false) := by
            show _ = _
            unfold isWayOf
            rw [decide_eq_false_iff_not]
            exact fun hh => hy1 (HONE.out.2 (by have := hh.2.2 k (by rw [HUN.out]; omega); rwa [← HX.out, HY.out] at this))
          go_wp2
          go_ret
          exact ⟨ret_bool HE.out.symm, HGB7.out⟩
      · have hkk : k = m1 := by omega
        subst hkk
        have HE := Lib.hid (HFIN.out HW.out)
        go_wp2
        go_ret
        exact ⟨ret_bool HE.out.symm, HG.out⟩
end Go.Proofs.Ytbgbnbnfmlpemaa.WayI

/- Contracts of whether a journal's pages are a trace, of the program and of its model. -/
import Derived.Test.YtbpiojnehomljaaDoorJrS
import Derived.Test.YtbpiojnehomljaaDoorJrK
import Derived.Test.YtbpiojnehomljaaDoorWayI
import Derived.Test.YtbpiojnehomljaaDoorWayS
import Derived.Test.YtbpiojnehomljaaDoorLandI
import Derived.Test.YtbpiojnehomljaaDoorLandS
import Derived.Deep.RegionHeld3
namespace Go.Proofs.YtbpiojnehomljaaDoor.Trc
open Go.RowKit Kit Rw Rg Ld Wf Jrn

noncomputable def inT (W H : Int) (X : List Int) (b p : I4) : Bool := decide (0 ≤ daysOf W H X b.x1 p.x1) && decide (daysOf W H X b.x1 p.x1 ≤ p.x0 - b.x0)
def openTo (W H : Int) (X : List Int) (L : List I4) : Nat → Bool
  | 0 => true
  | j + 1 => openTo W H X L j && isOpen W H X (L.getD j zI4).x1
noncomputable def pt (W H : Int) (X : List Int) (L : List I4) : Nat → Bool
  | 0 => true
  | 1 => true
  | j + 2 => pt W H X L (j + 1) && inT W H X (L.getD j zI4) (L.getD (j + 1) zI4)
noncomputable def isTr (W H : Int) (X : List Int) (L : List I4) : Bool := isJ L && (openTo W H X L L.length && pt W H X L (max 1 L.length))
section
variable {W H : Int} {X : List Int} {L : List I4}
theorem open_next (j : Nat) : openTo W H X L (j + 1) = (openTo W H X L j && isOpen W H X (L.getD j zI4).x1) := rfl
theorem pt_zero : pt W H X L 0 = true := rfl
theorem pt_one : pt W H X L 1 = true := rfl
theorem pt_next (j : Nat) : pt W H X L (j + 1 + 1) = (pt W H X L (j + 1) && inT W H X (L.getD j zI4) (L.getD (j + 1) zI4)) := rfl
theorem open_stays {i : Nat} (h : openTo W H X L i = false) : ∀ k, openTo W H X L (i + k) = false
  | 0 => h
  | k + 1 => by rw [← Nat.add_assoc, open_next, open_stays h k]; rfl
theorem pt_stays {i : Nat} (h : pt W H X L (i + 1) = false) : ∀ k, pt W H X L (i + 1 + k) = false
  | 0 => h
  | k + 1 => by
    have e : i + 1 + (k + 1) = (i + k) + 1 + 1 := by omega
    have h2 := pt_stays h k
    have e2 : i + 1 + k = i + k + 1 := by omega
    rw [e2] at h2
    rw [e, pt_next, h2]; rfl
theorem tr_shut {i : Nat} (hi : i ≤ L.length) (h : openTo W H X L i = false) : isTr W H X L = false := by
  obtain ⟨k, hk⟩ : ∃ k, L.length = i + k := ⟨L.length - i, by omega⟩
  unfold isTr
  rw [hk, open_stays h k]; simp
theorem tr_late {i : Nat} (hi : i + 1 ≤ L.length) (h : pt W H X L (i + 1) = false) : isTr W H X L = false := by
  obtain ⟨k, hk⟩ : ∃ k, L.length = i + 1 + k := ⟨L.length - (i + 1), by omega⟩
  have e : max 1 L.length = i + 1 + k := by omega
  unfold isTr
  rw [e, pt_stays h k]; simp
theorem tr_noJ (h : isJ L = false) : isTr W H X L = false := by unfold isTr; rw [h]; rfl
theorem tr_yes (ho : openTo W H X L L.length = true) (hp : pt W H X L (max 1 L.length) = true) : isTr W H X L = isJ L := by unfold isTr; rw [ho, hp]; simp
theorem day_bd (h : isJ L = true) {j : Nat} (hj : j < L.length) : 0 ≤ (L.getD j zI4).x0 ∧ (L.getD j zI4).x0 ≤ 10000 := by
  have h1 := (isJ_out h).2
  have h2 := mf_out (h1 j hj)
  have h3 := prev_bd (L := L) (n := j) (fun k hk => h1 k (by omega))
  omega
end
theorem ret_b {a b : Bool} (h : a = b) : Ending.returned (.bool a) = .returned (.bool b) := by rw [h]

set_option maxHeartbeats 1000000 in
theorem inRange_any (n l h : Int) (w : World) :
    Calls Tryd.prog 47 #[.int .i64 n, .int .i64 l, .int .i64 h] w fun e w' => e = .returned (.bool (decide (l ≤ n) && decide (n ≤ h))) ∧ w = w' := by
  by_cases h1 : l ≤ n
  · go_enter Tryd.func47, Tryd.ntmps47
    go_wp2
    go_ret
    exact ⟨by simp [h1], rfl⟩
  · go_enter Tryd.func47, Tryd.ntmps47
    go_wp2
    go_ret
    exact ⟨by simp; omega, rfl⟩

set_option maxRecDepth 20000 in
set_option maxHeartbeats 4000000 in
theorem inTime_any (w : World) (W H b0 b1 b2 b3 p0 p1 p2 p3 : Int) (v : Value) (X : List Int) (hv : Sees .i64 w v X) (q : IntKind.i64.wrap (p0 - b0) = p0 - b0) :
    Calls Tryd.prog 34 #[.agg #[.int .i64 W, .int .i64 H, v], .agg #[.int .i64 b0, .int .i64 b1, .int .i64 b2, .int .i64 b3], .agg #[.int .i64 p0, .int .i64 p1, .int .i64 p2, .int .i64 p3]] w fun e w' => e = .returned (.bool (inT W H X ⟨b0, b1, b2, b3⟩ ⟨p0, p1, p2, p3⟩)) ∧ w.grownBy w' none := by
  obtain ⟨va, vn, vc, rfl, _⟩ := hv.shape
  have g1 := World.grownBy_alloc w (.cells #[.int .i64 W, .int .i64 H, .slice va vn vc] 29 (0, 0)) none
  have g2 := World.grownBy_alloc (w.alloc (.cells #[.int .i64 W, .int .i64 H, .slice va vn vc] 29 (0, 0))) (.cells #[.int .i64 b0, .int .i64 b1, .int .i64 b2, .int .i64 b3] 42 (0, 0)) none
  have g3 := World.grownBy_alloc ((w.alloc (.cells #[.int .i64 W, .int .i64 H, .slice va vn vc] 29 (0, 0))).alloc (.cells #[.int .i64 b0, .int .i64 b1, .int .i64 b2, .int .i64 b3] 42 (0, 0))) (.cells #[.int .i64 p0, .int .i64 p1, .int .i64 p2, .int .i64 p3] 42 (0, 0)) none
  have x1 := ((box_new w #[.int .i64 W, .int .i64 H, .slice va vn vc] 29).grown g2).grown g3
  have x2 := (box_new (w.alloc (.cells #[.int .i64 W, .int .i64 H, .slice va vn vc] 29 (0, 0))) #[.int .i64 b0, .int .i64 b1, .int .i64 b2, .int .i64 b3] 42).grown g3
  have x3 := box_new ((w.alloc (.cells #[.int .i64 W, .int .i64 H, .slice va vn vc] 29 (0, 0))).alloc (.cells #[.int .i64 b0, .int .i64 b1, .int .i64 b2, .int .i64 b3] 42 (0, 0))) #[.int .i64 p0, .int .i64 p1, .int .i64 p2, .int .i64 p3] 42
  simp only [World.size_alloc] at x2 x3
  have gg := grownN_trans (grownN_trans g1 g2) g3
  have HG := Lib.hid gg
  have HV := Lib.hid (hv.grown gg)
  have HX1 := Lib.hid x1
  have HX2 := Lib.hid x2
  have HX3 := Lib.hid x3
  have hDY := fun w' hx => WayI.days_any w' W H b1 p1 (.slice va vn vc) X hx
  have hN : inT W H X ⟨b0, b1, b2, b3⟩ ⟨p0, p1, p2, p3⟩ = (decide (0 ≤ daysOf W H X b1 p1) && decide (daysOf W H X b1 p1 ≤ p0 - b0)) := rfl
  obtain ⟨z, hz⟩ : ∃ z, z = daysOf W H X b1 p1 := ⟨_, rfl⟩
  rw [← hz] at hDY hN
  have HDY := Lib.hid hDY
  rw [hN]
  clear g1 g2 g3 x1 x2 x3 gg hv hDY hN hz
  go_enter Tryd.func34, Tryd.ntmps34
  go_wp2_with fail
  generalize ((w.alloc (.cells #[.int .i64 W, .int .i64 H, .slice va vn vc] 29 (0, 0))).alloc (.cells #[.int .i64 b0, .int .i64 b1, .int .i64 b2, .int .i64 b3] 42 (0, 0))).alloc (.cells #[.int .i64 p0, .int .i64 p1, .int .i64 p2, .int .i64 p3] 42 (0, 0)) = W3 at *
  have HD : Hid (∀ w', W3.grownBy w' none → (w'.cell? ⟨w.heap.size, 0, none⟩ = some (.int .i64 W) ∧ w'.cell? ⟨w.heap.size, 1, none⟩ = some (.int .i64 H) ∧ w'.cell? ⟨w.heap.size, 2, none⟩ = some (.slice va vn vc)) ∧ (w'.cell? ⟨w.heap.size + 1, 0, none⟩ = some (.int .i64 b0) ∧ w'.cell? ⟨w.heap.size + 1, 1, none⟩ = some (.int .i64 b1)) ∧ (w'.cell? ⟨w.heap.size + 1 + 1, 0, none⟩ = some (.int .i64 p0) ∧ w'.cell? ⟨w.heap.size + 1 + 1, 1, none⟩ = some (.int .i64 p1))) := fun w' hg => ⟨⟨(HX1.out.grown hg).cell 0, (HX1.out.grown hg).cell 1, (HX1.out.grown hg).cell 2⟩, ⟨(HX2.out.grown hg).cell 0, (HX2.out.grown hg).cell 1⟩, ⟨(HX3.out.grown hg).cell 0, (HX3.out.grown hg).cell 1⟩⟩
  have HG4 := Lib.hid (grown_drew (World.grownBy.refl W3 none))
  refine wp_region_held_drew (S := fun w' => (w'.cell? ⟨w.heap.size, 0, none⟩ = some (.int .i64 W) ∧ w'.cell? ⟨w.heap.size, 1, none⟩ = some (.int .i64 H) ∧ w'.cell? ⟨w.heap.size, 2, none⟩ = some (.slice va vn vc)) ∧ (w'.cell? ⟨w.heap.size + 1, 0, none⟩ = some (.int .i64 b0) ∧ w'.cell? ⟨w.heap.size + 1, 1, none⟩ = some (.int .i64 b1)) ∧ (w'.cell? ⟨w.heap.size + 1 + 1, 0, none⟩ = some (.int .i64 p0) ∧ w'.cell? ⟨w.heap.size + 1 + 1, 1, none⟩ = some (.int .i64 p1))) (by kernel_rfl) (HD.out _ HG4.out) (fun hHeld => ?_)
  refine wpAnyH_take (i := 0) (v := ?_) rfl (by kernel_rfl) (by kernel_rfl) (by kernel_rfl) (fun _ _ _ h => h) (Or.inl ⟨by rfl, ?_⟩) (by assumption) ?_; rotate_left; (focus (intro wS hSw; (try dsimp only at hSw); go_simp <;> with_reducible rfl)); (try simp only [Act.put, List.getElem_toArray, List.getElem_cons_succ, List.getElem_cons_zero, List.setIfInBounds_toArray, List.set_cons_zero, List.set_cons_succ])
  refine wpAnyH_take (i := 1) (v := ?_) rfl (by kernel_rfl) (by kernel_rfl) (by kernel_rfl) (fun _ _ _ h => h) (Or.inl ⟨by rfl, ?_⟩) (by assumption) ?_; rotate_left; (focus (intro wS hSw; (try dsimp only at hSw); go_simp <;> with_reducible rfl)); (try simp only [Act.put, List.getElem_toArray, List.getElem_cons_succ, List.getElem_cons_zero, List.setIfInBounds_toArray, List.set_cons_zero, List.set_cons_succ])
  refine wpAnyH_take (i := 2) (v := ?_) rfl (by kernel_rfl) (by kernel_rfl) (by kernel_rfl) (fun _ _ _ h => h) (Or.inl ⟨by rfl, ?_⟩) (by assumption) ?_; rotate_left; (focus (intro wS hSw; (try dsimp only at hSw); go_simp <;> with_reducible rfl)); (try simp only [Act.put, List.getElem_toArray, List.getElem_cons_succ, List.getElem_cons_zero, List.setIfInBounds_toArray, List.set_cons_zero, List.set_cons_succ])
  refine wpAnyH_take (i := 3) (v := ?_) rfl (by kernel_rfl) (by kernel_rfl) (by kernel_rfl) (fun _ _ _ h => h) (Or.inl ⟨by rfl, ?_⟩) (by assumption) ?_; rotate_left; (focus (intro wS hSw; (try dsimp only at hSw); go_simp <;> with_reducible rfl)); (try simp only [Act.put, List.getElem_toArray, List.getElem_cons_succ, List.getElem_cons_zero, List.setIfInBounds_toArray, List.set_cons_zero, List.set_cons_succ])
  refine wpAnyH_take (i := 4) (v := ?_) rfl (by kernel_rfl) (by kernel_rfl) (by kernel_rfl) (fun _ _ _ h => h) (Or.inl ⟨by rfl, ?_⟩) (by assumption) ?_; rotate_left; (focus (intro wS hSw; (try dsimp only at hSw); go_simp <;> with_reducible rfl)); (try simp only [Act.put, List.getElem_toArray, List.getElem_cons_succ, List.getElem_cons_zero, List.setIfInBounds_toArray, List.set_cons_zero, List.set_cons_succ])
  refine wpAnyH_take (i := 6) (v := ?_) rfl (by kernel_rfl) (by kernel_rfl) (by kernel_rfl) (fun _ _ _ h => h) (Or.inl ⟨by rfl, ?_⟩) (by assumption) ?_; rotate_left; (focus (intro wS hSw; (try dsimp only at hSw); go_simp <;> with_reducible rfl)); (try simp only [Act.put, List.getElem_toArray, List.getElem_cons_succ, List.getElem_cons_zero, List.setIfInBounds_toArray, List.set_cons_zero, List.set_cons_succ])
  refine wpAnyH_take (i := 7) (v := ?_) rfl (by kernel_rfl) (by kernel_rfl) (by kernel_rfl) (fun _ _ _ h => h) (Or.inl ⟨by rfl, ?_⟩) (by assumption) ?_; rotate_left; (focus (intro wS hSw; (try dsimp only at hSw); go_simp <;> with_reducible rfl)); (try simp only [Act.put, List.getElem_toArray, List.getElem_cons_succ, List.getElem_cons_zero, List.setIfInBounds_toArray, List.set_cons_zero, List.set_cons_succ])
  refine wpAnyH_take (i := 8) (v := ?_) rfl (by kernel_rfl) (by kernel_rfl) (by kernel_rfl) (fun _ _ _ h => h) (Or.inl ⟨by rfl, ?_⟩) (by assumption) ?_; rotate_left; (focus (intro wS hSw; (try dsimp only at hSw); go_simp <;> with_reducible rfl)); (try simp only [Act.put, List.getElem_toArray, List.getElem_cons_succ, List.getElem_cons_zero, List.setIfInBounds_toArray, List.set_cons_zero, List.set_cons_succ])
  refine wpAnyH_take (i := 9) (v := ?_) rfl (by kernel_rfl) (by kernel_rfl) (by kernel_rfl) (fun _ _ _ h => h) (Or.inl ⟨by rfl, ?_⟩) (by assumption) ?_; rotate_left; (focus (intro wS hSw; (try dsimp only at hSw); go_simp <;> with_reducible rfl)); (try simp only [Act.put, List.getElem_toArray, List.getElem_cons_succ, List.getElem_cons_zero, List.setIfInBounds_toArray, List.set_cons_zero, List.set_cons_succ])
  refine wpAnyH_take (i := 10) (v := ?_) rfl (by kernel_rfl) (by kernel_rfl) (by kernel_rfl) (fun _ _ _ h => h) (Or.inl ⟨by rfl, ?_⟩) (by assumption) ?_; rotate_left; (focus (intro wS hSw; (try dsimp only at hSw); go_simp <;> with_reducible rfl)); (try simp only [Act.put, List.getElem_toArray, List.getElem_cons_succ, List.getElem_cons_zero, List.setIfInBounds_toArray, List.set_cons_zero, List.set_cons_succ])
  refine wpAnyH_ready (rs := [5]) (by kernel_rfl) (by simp) ?_; refine AllReadyH.cons rfl (fun K hK => ?_) AllReadyH.nil; go_simp; (go_at_call 23; refine (HDY.out _ (HV.out.grown HG4.out)).mono ?_; rintro e w5 ⟨rfl, hg5⟩; have HG5 := Lib.hid (grownN_trans HG4.out hg5); clear hg5)
  refine hK.out _ _ ?_ (fun hHeld => ?_)
  · exact HD.out _ HG5.out
  clear hK K
  (try simp only [Act.put, List.getElem_toArray, List.getElem_cons_succ, List.getElem_cons_zero, List.setIfInBounds_toArray, List.set_cons_zero, List.set_cons_succ])
  refine wpAnyH_ready (rs := [11]) (by kernel_rfl) (by simp) ?_; refine AllReadyH.cons rfl (fun K hK => ?_) AllReadyH.nil; go_simp; (go_at_call 47; refine (inRange_any z 0 (p0 - b0) _).mono ?_; rintro e w6 ⟨rfl, rfl⟩)
  refine hK.out _ _ ?_ (fun hHeld => ?_)
  · exact HD.out _ HG5.out
  clear hK K
  (try simp only [Act.put, List.getElem_toArray, List.getElem_cons_succ, List.getElem_cons_zero, List.setIfInBounds_toArray, List.set_cons_zero, List.set_cons_succ])
  refine wpAnyH_take (i := 12) (v := ?_) rfl (by kernel_rfl) (by kernel_rfl) (by kernel_rfl) (fun _ _ _ h => h) (Or.inl ⟨by rfl, ?_⟩) (by assumption) ?_; rotate_left; (focus (intro wS hSw; (try dsimp only at hSw); go_simp <;> with_reducible rfl)); (try simp only [Act.put, List.getElem_toArray, List.getElem_cons_succ, List.getElem_cons_zero, List.setIfInBounds_toArray, List.set_cons_zero, List.set_cons_succ])
  refine wpAnyH_done (by kernel_rfl) ?_ _
  (try simp only [Act.put, List.getElem_toArray, List.getElem_cons_succ, List.getElem_cons_zero, List.setIfInBounds_toArray, List.set_cons_zero, List.set_cons_succ])
  go_wp2
  go_ret
  exact ⟨rfl, grownN_trans HG.out HG5.out⟩

set_option maxRecDepth 20000 in
set_option maxHeartbeats 2000000 in
theorem one1_any (w : World) (A : Nat) (W H p0 p1 p2 p3 : Int) (s : Bool) (v : Value) (X : List Int) (hv : Sees .i64 w v X) (hc : Box w A #[.int .i64 W, .int .i64 H, v] 29) :
    Calls Tryd.prog 30 #[.bool s, .agg #[.int .i64 p0, .int .i64 p1, .int .i64 p2, .int .i64 p3], .pointer (some ⟨A, 0, none⟩)] w fun e w' => e = .returned (.bool (s && isOpen W H X p1)) ∧ w.grownBy w' none := by
  obtain ⟨va, vn, vc, rfl, _⟩ := hv.shape
  have hg0 := World.grownBy_alloc w (.cells #[.int .i64 p0, .int .i64 p1, .int .i64 p2, .int .i64 p3] 42 (0, 0)) none
  have HG0 := Lib.hid hg0
  have q := (box_new w #[.int .i64 p0, .int .i64 p1, .int .i64 p2, .int .i64 p3] 42).cell 1
  obtain ⟨c0, c1, c2⟩ := (hc.grown hg0).three
  simp only [List.getElem?_toArray, List.getElem?_cons_succ, List.getElem?_cons_zero] at q
  have HC := Lib.hid (LandI.isOpen_any _ W H p1 (.slice va vn vc) X (hv.grown hg0))
  clear hv hc hg0
  cases s
  · go_enter Tryd.func30, Tryd.ntmps30
    go_wp2
    go_ret
    exact ⟨rfl, HG0.out⟩
  · go_enter Tryd.func30, Tryd.ntmps30
    go_wp2_with fail
    refine HC.out.mono ?_
    rintro e w2 ⟨rfl, hg⟩
    have HG2 := Lib.hid (grownN_trans HG0.out hg)
    clear hg
    go_wp2
    go_ret
    exact ⟨rfl, HG2.out⟩

set_option maxRecDepth 20000 in
set_option maxHeartbeats 2000000 in
theorem one2_any (w : World) (A : Nat) (W H b0 b1 b2 b3 p0 p1 p2 p3 : Int) (s : Bool) (v : Value) (X : List Int) (hv : Sees .i64 w v X) (hc : Box w A #[.int .i64 W, .int .i64 H, v] 29) (q : IntKind.i64.wrap (p0 - b0) = p0 - b0) :
    Calls Tryd.prog 33 #[.bool s, .agg #[.int .i64 b0, .int .i64 b1, .int .i64 b2, .int .i64 b3], .agg #[.int .i64 p0, .int .i64 p1, .int .i64 p2, .int .i64 p3], .pointer (some ⟨A, 0, none⟩)] w fun e w' => e = .returned (.bool (s && inT W H X ⟨b0, b1, b2, b3⟩ ⟨p0, p1, p2, p3⟩)) ∧ w.grownBy w' none := by
  obtain ⟨va, vn, vc, rfl, _⟩ := hv.shape
  have g2 := World.grownBy_alloc w (.cells #[.int .i64 b0, .int .i64 b1, .int .i64 b2, .int .i64 b3] 42 (0, 0)) none
  have g3 := World.grownBy_alloc (w.alloc (.cells #[.int .i64 b0, .int .i64 b1, .int .i64 b2, .int .i64 b3] 42 (0, 0))) (.cells #[.int .i64 p0, .int .i64 p1, .int .i64 p2, .int .i64 p3] 42 (0, 0)) none
  have x2 := (box_new w #[.int .i64 b0, .int .i64 b1, .int .i64 b2, .int .i64 b3] 42).grown g3
  have x3 := box_new (w.alloc (.cells #[.int .i64 b0, .int .i64 b1, .int .i64 b2, .int .i64 b3] 42 (0, 0))) #[.int .i64 p0, .int .i64 p1, .int .i64 p2, .int .i64 p3] 42
  simp only [World.size_alloc] at x3
  have gg := grownN_trans g2 g3
  have HG0 := Lib.hid gg
  obtain ⟨c0, c1, c2⟩ := (hc.grown gg).three
  have HC := Lib.hid (inTime_any _ W H b0 b1 b2 b3 p0 p1 p2 p3 (.slice va vn vc) X (hv.grown gg) q)
  have d0 := x2.cell 0
  have d1 := x2.cell 1
  have d2 := x2.cell 2
  have d3 := x2.cell 3
  have e0 := x3.cell 0
  have e1 := x3.cell 1
  have e2 := x3.cell 2
  have e3 := x3.cell 3
  simp only [List.getElem?_toArray, List.getElem?_cons_succ, List.getElem?_cons_zero] at d0 d1 d2 d3 e0 e1 e2 e3
  clear hv hc g2 g3 x2 x3 gg q
  cases s
  · go_enter Tryd.func33, Tryd.ntmps33
    go_wp2
    go_ret
    exact ⟨rfl, HG0.out⟩
  · go_enter Tryd.func33, Tryd.ntmps33
    go_wp2_with fail
    refine HC.out.mono ?_
    rintro e w2 ⟨rfl, hg⟩
    have HG2 := Lib.hid (grownN_trans HG0.out hg)
    clear hg
    go_wp2
    go_ret
    exact ⟨rfl, HG2.out⟩

set_option maxRecDepth 20000 in
set_option maxHeartbeats 2000000 in
theorem fold_any (w : World) (A : Nat) (W H : Int) (v u : Value) (X : List Int) (L : List I4) (hv : Sees .i64 w v X) (hu : SeesG enc4 w u L) (hc : Box w A #[.int .i64 W, .int .i64 H, v] 29) :
    Calls Tryd.prog 29 #[u, .bool true, .func (.func 30) #[] #[.pointer (some ⟨A, 0, none⟩)]] w fun e w' => e = .returned (.bool (openTo W H X L L.length)) ∧ w.grownBy w' none := by
  have hl := hu.len
  have HV := Lib.hid hv
  have HU := Lib.hid hu
  have HC := Lib.hid hc
  obtain ⟨a, cap, rfl, _⟩ := hu
  clear hv hc
  go_enter Tryd.func29, Tryd.ntmps29
  go_wp2
  go_loopw [1, 11] (fun s i wr => ∃ j : Nat, j ≤ L.length ∧ i = .int .i64 j ∧ s = .bool (openTo W H X L j) ∧ Hid (w.grownBy wr none)) (fun _ i _ => L.length - (intOf i).toNat)
  case atStart => exact ⟨0, Nat.zero_le _, rfl, rfl, World.grownBy.refl _ _⟩
  case round =>
    rename_i _ _ wr
    obtain ⟨j, hj, rfl, rfl, HG⟩ := hrel
    obtain ⟨s, hs⟩ : ∃ s, s = openTo W H X L j := ⟨_, rfl⟩
    rw [← hs]
    have HS := Lib.hid hs
    clear hs
    by_cases hlt : j < L.length
    · obtain ⟨b, o, rfl, _, _⟩ := HU.out.at_row hlt
      obtain ⟨x, hx⟩ : ∃ x, L.getD j zI4 = x := ⟨_, rfl⟩
      obtain ⟨d0, d1, d2, d3⟩ := at4_in HU.out HG.out hlt hx
      have HX := Lib.hid hx
      clear hx
      obtain ⟨x0, x1, x2, x3⟩ := x
      dsimp only at d0 d1 d2 d3
      have HG2 := Lib.hid (World.grownBy_alloc wr (.cells #[.int .i64 x0, .int .i64 x1, .int .i64 x2, .int .i64 x3] 42 (0, 0)) none)
      have HN : Hid ((s && isOpen W H X x1) = openTo W H X L (j + 1)) := by
        show _ = _
        rw [open_next, HX.out, HS.out]
      go_wp2_with fail
      refine (one1_any _ A W H x0 x1 x2 x3 s v X (HV.out.grown (grownN_trans HG.out HG2.out)) (HC.out.grown (grownN_trans HG.out HG2.out))).mono ?_
      rintro e w5 ⟨rfl, hg⟩
      rw [HN.out]
      have HG5 := Lib.hid (grownN_trans (grownN_trans HG.out HG2.out) hg)
      clear hg
      go_wp2
      go_roundw
      case rel => exact ⟨j + 1, by omega, by go_num, rfl, HG5⟩
      case measure => simp [intOf]; omega
    · have : j = L.length := by omega
      subst this
      go_wp2
      go_ret
      exact ⟨ret_b HS.out, HG.out⟩

set_option maxRecDepth 20000 in
set_option maxHeartbeats 2000000 in
theorem pairs_any (w : World) (A : Nat) (W H : Int) (t : Bool) (v u : Value) (X : List Int) (L : List I4) (hv : Sees .i64 w v X) (hu : SeesG enc4 w u L) (hc : Box w A #[.int .i64 W, .int .i64 H, v] 29) (hdays : ∀ j, j < L.length → 0 ≤ (L.getD j zI4).x0 ∧ (L.getD j zI4).x0 ≤ 10000) :
    Calls Tryd.prog 32 #[u, .bool t, .func (.func 33) #[] #[.pointer (some ⟨A, 0, none⟩)]] w fun e w' => e = .returned (.bool (t && pt W H X L (max 1 L.length))) ∧ w.grownBy w' none := by
  have hl := hu.len
  have HV := Lib.hid hv
  have HU := Lib.hid hu
  have HC := Lib.hid hc
  have HDB := Lib.hid hdays
  obtain ⟨a, cap, rfl, _⟩ := hu
  clear hv hc hdays
  go_enter Tryd.func32, Tryd.ntmps32
  go_wp2
  go_loopw [1, 7] (fun s i wr => ∃ j : Nat, 1 ≤ j ∧ j ≤ max 1 L.length ∧ i = .int .i64 j ∧ s = .bool (t && pt W H X L j) ∧ Hid (w.grownBy wr none)) (fun _ i _ => L.length - (intOf i).toNat)
  case atStart => exact ⟨1, Nat.le_refl _, by omega, rfl, by rw [pt_one, Bool.and_true], World.grownBy.refl _ _⟩
  case round =>
    rename_i _ _ wr
    obtain ⟨j, hj1, hj, rfl, rfl, HG⟩ := hrel
    obtain ⟨s, hs⟩ : ∃ s, s = (t && pt W H X L j) := ⟨_, rfl⟩
    rw [← hs]
    have HS := Lib.hid hs
    clear hs
    by_cases hlt : j < L.length
    · have HG4 := Lib.hid (grownN_trans HG.out (grown_drew (World.grownBy.refl wr none)))
      have hltI : (j : Int) < (L.length : Int) := by omega
      have hj0 : (0 : Int) ≤ (j : Int) := by omega
      obtain ⟨k, rfl⟩ : ∃ k, j = k + 1 := ⟨j - 1, by omega⟩
      have hk : k < L.length := by omega
      obtain ⟨b, o, rfl, _, _⟩ := HU.out.at_row hlt
      have hb1 := HDB.out (k + 1) hlt
      have hb2 := HDB.out k hk
      obtain ⟨x, hx⟩ : ∃ x, L.getD (k + 1) zI4 = x := ⟨_, rfl⟩
      obtain ⟨y, hy⟩ : ∃ y, L.getD k zI4 = y := ⟨_, rfl⟩
      have hD := fun w' (hg : w.grownBy w' none) => And.intro (at4_in HU.out hg hk hy) (at4_in HU.out hg hlt hx)
      have HD := Lib.hid hD
      rw [hx] at hb1
      rw [hy] at hb2
      have HX := Lib.hid hx
      have HY := Lib.hid hy
      have hkI : ((k + 1 : Nat) : Int) - 1 = (k : Int) := by omega
      have hk0 : (0 : Int) ≤ (k : Int) := by omega
      have hkl : (k : Int) < (L.length : Int) := by omega
      have hk10 : (0 : Int) ≤ (k : Int) + 1 := by omega
      have hk1l : (k : Int) + 1 < (L.length : Int) := by omega
      have hwk : IntKind.i64.wrap (k : Int) = (k : Int) := IntWalk.i64_in _ (by omega)
      clear hD hx hy
      obtain ⟨x0, x1, x2, x3⟩ := x
      obtain ⟨y0, y1, y2, y3⟩ := y
      dsimp only at hb1 hb2
      have HQ := Lib.hid (show IntKind.i64.wrap (x0 - y0) = x0 - y0 from IntWalk.i64_in _ (by omega))
      have HN : Hid ((s && inT W H X ⟨y0, y1, y2, y3⟩ ⟨x0, x1, x2, x3⟩) = (t && pt W H X L (k + 1 + 1))) := by
        show _ = _
        rw [pt_next, HX.out, HY.out, HS.out, Bool.and_assoc]
      clear hb1 hb2
      go_wp2_with fail
      refine wp_region_held_drew (S := fun w' => (w'.cell? ⟨b, o + k * 4, none⟩ = some (.int .i64 y0) ∧ w'.cell? ⟨b, o + k * 4 + 1, none⟩ = some (.int .i64 y1) ∧ w'.cell? ⟨b, o + k * 4 + 2, none⟩ = some (.int .i64 y2) ∧ w'.cell? ⟨b, o + k * 4 + 3, none⟩ = some (.int .i64 y3)) ∧ (w'.cell? ⟨b, o + (k + 1) * 4, none⟩ = some (.int .i64 x0) ∧ w'.cell? ⟨b, o + (k + 1) * 4 + 1, none⟩ = some (.int .i64 x1) ∧ w'.cell? ⟨b, o + (k + 1) * 4 + 2, none⟩ = some (.int .i64 x2) ∧ w'.cell? ⟨b, o + (k + 1) * 4 + 3, none⟩ = some (.int .i64 x3))) (by kernel_rfl) (HD.out _ HG4.out) (fun hHeld => ?_)
      refine wpAnyH_take (i := 0) (v := ?_) rfl (by kernel_rfl) (by kernel_rfl) (by kernel_rfl) (fun _ _ _ h => h) (Or.inl ⟨by rfl, ?_⟩) (by assumption) ?_; rotate_left; (focus (intro wS hSw; (try dsimp only at hSw); go_simp <;> with_reducible rfl)); (try simp only [Act.put, List.getElem_toArray, List.getElem_cons_succ, List.getElem_cons_zero, List.setIfInBounds_toArray, List.set_cons_zero, List.set_cons_succ])
      refine wpAnyH_take (i := 1) (v := ?_) rfl (by kernel_rfl) (by kernel_rfl) (by kernel_rfl) (fun _ _ _ h => h) (Or.inl ⟨by rfl, ?_⟩) (by assumption) ?_; rotate_left; (focus (intro wS hSw; (try dsimp only at hSw); go_simp <;> with_reducible rfl)); (try simp only [Act.put, List.getElem_toArray, List.getElem_cons_succ, List.getElem_cons_zero, List.setIfInBounds_toArray, List.set_cons_zero, List.set_cons_succ])
      refine wpAnyH_take (i := 2) (v := ?_) rfl (by kernel_rfl) (by kernel_rfl) (by kernel_rfl) (fun _ _ _ h => h) (Or.inl ⟨by rfl, ?_⟩) (by assumption) ?_; rotate_left; (focus (intro wS hSw; (try dsimp only at hSw); go_simp <;> with_reducible rfl)); (try simp only [Act.put, List.getElem_toArray, List.getElem_cons_succ, List.getElem_cons_zero, List.setIfInBounds_toArray, List.set_cons_zero, List.set_cons_succ])
      refine wpAnyH_take (i := 3) (v := ?_) rfl (by kernel_rfl) (by kernel_rfl) (by kernel_rfl) (fun _ _ _ h => h) (Or.inl ⟨by rfl, ?_⟩) (by assumption) ?_; rotate_left; (focus (intro wS hSw; (try dsimp only at hSw); go_simp <;> with_reducible rfl)); (try simp only [Act.put, List.getElem_toArray, List.getElem_cons_succ, List.getElem_cons_zero, List.setIfInBounds_toArray, List.set_cons_zero, List.set_cons_succ])
      refine wpAnyH_take (i := 4) (v := ?_) rfl (by kernel_rfl) (by kernel_rfl) (by kernel_rfl) (fun _ _ _ h => h) (Or.inl ⟨by rfl, ?_⟩) (by assumption) ?_; rotate_left; (focus (intro wS hSw; (try dsimp only at hSw); go_simp <;> with_reducible rfl)); (try simp only [Act.put, List.getElem_toArray, List.getElem_cons_succ, List.getElem_cons_zero, List.setIfInBounds_toArray, List.set_cons_zero, List.set_cons_succ])
      refine wpAnyH_take (i := 5) (v := ?_) rfl (by kernel_rfl) (by kernel_rfl) (by kernel_rfl) (fun _ _ _ h => h) (Or.inl ⟨by rfl, ?_⟩) (by assumption) ?_; rotate_left; (focus (intro wS hSw; (try dsimp only at hSw); go_simp <;> with_reducible rfl)); (try simp only [Act.put, List.getElem_toArray, List.getElem_cons_succ, List.getElem_cons_zero, List.setIfInBounds_toArray, List.set_cons_zero, List.set_cons_succ])
      refine wpAnyH_take (i := 6) (v := ?_) rfl (by kernel_rfl) (by kernel_rfl) (by kernel_rfl) (fun _ _ _ h => h) (Or.inl ⟨by rfl, ?_⟩) (by assumption) ?_; rotate_left; (focus (intro wS hSw; (try dsimp only at hSw); go_simp <;> with_reducible rfl)); (try simp only [Act.put, List.getElem_toArray, List.getElem_cons_succ, List.getElem_cons_zero, List.setIfInBounds_toArray, List.set_cons_zero, List.set_cons_succ])
      refine wpAnyH_take (i := 7) (v := ?_) rfl (by kernel_rfl) (by kernel_rfl) (by kernel_rfl) (fun _ _ _ h => h) (Or.inl ⟨by rfl, ?_⟩) (by assumption) ?_; rotate_left; (focus (intro wS hSw; (try dsimp only at hSw); go_simp <;> with_reducible rfl)); (try simp only [Act.put, List.getElem_toArray, List.getElem_cons_succ, List.getElem_cons_zero, List.setIfInBounds_toArray, List.set_cons_zero, List.set_cons_succ])
      refine wpAnyH_take (i := 8) (v := ?_) rfl (by kernel_rfl) (by kernel_rfl) (by kernel_rfl) (fun _ _ _ h => h) (Or.inl ⟨by rfl, ?_⟩) (by assumption) ?_; rotate_left; (focus (intro wS hSw; (try dsimp only at hSw); go_simp <;> with_reducible rfl)); (try simp only [Act.put, List.getElem_toArray, List.getElem_cons_succ, List.getElem_cons_zero, List.setIfInBounds_toArray, List.set_cons_zero, List.set_cons_succ])
      refine wpAnyH_take (i := 9) (v := ?_) rfl (by kernel_rfl) (by kernel_rfl) (by kernel_rfl) (fun _ _ _ h => h) (Or.inl ⟨by rfl, ?_⟩) (by assumption) ?_; rotate_left; (focus (intro wS hSw; (try dsimp only at hSw); go_simp <;> with_reducible rfl)); (try simp only [Act.put, List.getElem_toArray, List.getElem_cons_succ, List.getElem_cons_zero, List.setIfInBounds_toArray, List.set_cons_zero, List.set_cons_succ])
      refine wpAnyH_take (i := 10) (v := ?_) rfl (by kernel_rfl) (by kernel_rfl) (by kernel_rfl) (fun _ _ _ h => h) (Or.inl ⟨by rfl, ?_⟩) (by assumption) ?_; rotate_left; (focus (intro wS hSw; (try dsimp only at hSw); go_simp <;> with_reducible rfl)); (try simp only [Act.put, List.getElem_toArray, List.getElem_cons_succ, List.getElem_cons_zero, List.setIfInBounds_toArray, List.set_cons_zero, List.set_cons_succ])
      refine wpAnyH_ready (rs := [11]) (by kernel_rfl) (by simp) ?_; refine AllReadyH.cons rfl (fun K hK => ?_) AllReadyH.nil; go_simp; (go_at_call 33; refine (one2_any _ A W H y0 y1 y2 y3 x0 x1 x2 x3 s v X (HV.out.grown HG4.out) (HC.out.grown HG4.out) HQ.out).mono ?_; rintro e w5 ⟨rfl, hg5⟩; rw [HN.out]; have HG5 := Lib.hid (grownN_trans HG4.out hg5); clear hg5)
      refine hK.out _ _ ?_ (fun hHeld => ?_)
      · exact HD.out _ HG5.out
      clear hK K
      (try simp only [Act.put, List.getElem_toArray, List.getElem_cons_succ, List.getElem_cons_zero, List.setIfInBounds_toArray, List.set_cons_zero, List.set_cons_succ])
      refine wpAnyH_take (i := 12) (v := ?_) rfl (by kernel_rfl) (by kernel_rfl) (by kernel_rfl) (fun _ _ _ h => h) (Or.inl ⟨by rfl, ?_⟩) (by assumption) ?_; rotate_left; (focus (intro wS hSw; (try dsimp only at hSw); go_simp <;> with_reducible rfl)); (try simp only [Act.put, List.getElem_toArray, List.getElem_cons_succ, List.getElem_cons_zero, List.setIfInBounds_toArray, List.set_cons_zero, List.set_cons_succ])
      refine wpAnyH_done (by kernel_rfl) ?_ _
      (try simp only [Act.put, List.getElem_toArray, List.getElem_cons_succ, List.getElem_cons_zero, List.setIfInBounds_toArray, List.set_cons_zero, List.set_cons_succ])
      go_wp2
      go_roundw
      case rel => exact ⟨k + 1 + 1, by omega, by omega, by go_num, rfl, HG5⟩
      case measure => simp [intOf]; omega
    · have : j = max 1 L.length := by omega
      subst this
      go_wp2
      go_ret
      exact ⟨ret_b HS.out, HG.out⟩

set_option maxRecDepth 20000 in
set_option maxHeartbeats 2000000 in
theorem iTr_any (w : World) (W H : Int) (v u : Value) (X : List Int) (L : List I4) (hv : Sees .i64 w v X) (hu : SeesG enc4 w u L) (hcv : VC w) :
    Calls Tryd.prog 14 #[.agg #[.int .i64 W, .int .i64 H, v], u] w fun e w' => e = .returned (.bool (isTr W H X L)) ∧ w.grownBy w' none := by
  obtain ⟨ua, un, uc, rfl, HUN⟩ := hu.shape
  have g0 := World.grownBy_alloc w (.cells #[.int .i64 W, .int .i64 H, v] 29 (0, 0)) (none : Option Nat)
  have HG := Lib.hid g0
  have HB := Lib.hid (box_new w #[.int .i64 W, .int .i64 H, v] 29)
  have HV := Lib.hid (hv.grown g0)
  have HU := Lib.hid (hu.grown g0)
  have hJ := iIsJ_any _ _ L (hu.grown g0) (hcv.grown g0)
  cases hj : isJ L
  · have HR : Hid (isTr W H X L = false) := tr_noJ hj
    rw [hj] at hJ
    have HJ := Lib.hid hJ
    clear hv hu g0 hJ hj hcv
    go_enter Tryd.func14, Tryd.ntmps14
    go_wp2_with fail
    refine HJ.out.mono ?_
    rintro e w2 ⟨rfl, hg⟩
    have HG2 := Lib.hid (grownN_trans HG.out hg)
    clear hg
    go_wp2
    go_ret
    exact ⟨ret_b HR.out.symm, HG2.out⟩
  · have HR : Hid (isTr W H X L = (openTo W H X L L.length && pt W H X L (max 1 L.length))) := by show _ = _; unfold isTr; rw [hj]; rfl
    rw [hj] at hJ
    have HJ := Lib.hid hJ
    have HDB := Lib.hid (fun j (h : j < L.length) => day_bd hj h)
    clear hv hu g0 hJ hj hcv
    go_enter Tryd.func14, Tryd.ntmps14
    go_wp2_with fail
    generalize w.alloc (.cells #[.int .i64 W, .int .i64 H, v] 29 (0, 0)) = W1 at *
    refine HJ.out.mono ?_
    rintro e w2 ⟨rfl, hg⟩
    have HG2 := Lib.hid hg
    clear hg
    go_wp2_with fail
    refine (fold_any _ w.heap.size W H v _ X L (HV.out.grown HG2.out) (HU.out.grown HG2.out) (HB.out.grown HG2.out)).mono ?_
    rintro e w3 ⟨rfl, hg⟩
    have HG3 := Lib.hid (grownN_trans HG2.out hg)
    clear hg
    go_wp2_with fail
    refine (pairs_any _ w.heap.size W H _ v _ X L (HV.out.grown HG3.out) (HU.out.grown HG3.out) (HB.out.grown HG3.out) HDB.out).mono ?_
    rintro e w4 ⟨rfl, hg⟩
    have HG4 := Lib.hid (grownN_trans HG3.out hg)
    clear hg
    go_wp2
    go_ret
    exact ⟨ret_b HR.out.symm, grownN_trans HG.out HG4.out⟩
end Go.Proofs.YtbpiojnehomljaaDoor.Trc

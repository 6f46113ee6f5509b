/- Contract of the model's IsTrace. -/
import Derived.Test.YtbpiojnehomljaaDoorTrc
import Derived.Deep.QuietTactic
import Derived.BigQuiet
namespace Go.Proofs.YtbpiojnehomljaaDoor.Trc
open Go.RowKit Kit Rw Rg Ld Wf Jrn

set_option maxRecDepth 20000 in
set_option maxHeartbeats 8000000 in
theorem sTr_any (w : World) (W H : Int) (v u : Value) (X : List Int) (L : List I4) (hv : Sees .i64 w v X) (hu : SeesG enc4 w u L) :
    Calls Tryd.prog 13 #[.agg #[.int .i64 W, .int .i64 H, v], u] w fun e w' => e = .returned (.bool (isTr W H X L)) ∧ w.grownBy w' none := by
  have hl := hu.len
  obtain ⟨va, vn, vc, rfl, HVN⟩ := hv.shape
  have HV := Lib.hid hv
  have HU := Lib.hid hu
  have HG0 := Lib.hid (World.grownBy_alloc w (.cells #[.int .i64 W, .int .i64 H, .slice va vn vc] 29 (0, 0)) none)
  have HB0 := Lib.hid (box_new w #[.int .i64 W, .int .i64 H, .slice va vn vc] 29)
  have HDY := Lib.hid (fun w' (y x : Int) hx => WayS.sDays_any w' W H y x (.slice va vn vc) X hx)
  have HOP := Lib.hid (fun w' (x : Int) hx => LandS.sIsOpen_any w' W H x (.slice va vn vc) X hx)
  have hJJ := fun w' hx => sIsJ_any w' u L hx
  have HDB := Lib.hid (fun (hj : isJ L = true) j (h : j < L.length) => day_bd hj h)
  have HNJ := Lib.hid (fun (h : isJ L = false) => (tr_noJ h : isTr W H X L = false))
  obtain ⟨J, hJ⟩ : ∃ J, J = isJ L := ⟨_, rfl⟩
  rw [← hJ] at hJJ HDB HNJ
  have HJ := Lib.hid hJ
  have HJJ := Lib.hid hJJ
  obtain ⟨a, cap, rfl, _⟩ := hu
  clear hv hJ hJJ
  go_enter Tryd.func13, Tryd.ntmps13
  go_wp2
  generalize w.alloc (.cells #[.int .i64 W, .int .i64 H, .slice va vn vc] 29 (0, 0)) = W1 at *
  go_loopw [5] (fun i wr => ∃ j : Nat, j ≤ L.length ∧ i = .int .i64 j ∧ Hid (W1.grownBy wr none) ∧ Hid (openTo W H X L j = true) ∧ Hid (J = true → pt W H X L j = true)) (fun i _ => L.length - (intOf i).toNat)
  case atStart => exact ⟨0, Nat.zero_le _, rfl, World.grownBy.refl _ _, rfl, fun _ => rfl⟩
  case round =>
    rename_i _ wr
    obtain ⟨j, hj, rfl, HG, HO, HP⟩ := hrel
    by_cases hlt : j < L.length
    · have HG4 := Lib.hid (grownN_trans HG.out (grown_drew (World.grownBy.refl wr none)))
      have hltI : (j : Int) < (L.length : Int) := by omega
      have hj0 : (0 : Int) ≤ (j : Int) := by omega
      obtain ⟨b, o, rfl, hr⟩ := HU.out.at_row hlt
      clear hr
      obtain ⟨x, hx⟩ : ∃ x, L.getD j zI4 = x := ⟨_, rfl⟩
      have hD : ∀ w', W1.grownBy w' none → (w'.cell? ⟨w.heap.size, 0, none⟩ = some (.int .i64 W) ∧ w'.cell? ⟨w.heap.size, 1, none⟩ = some (.int .i64 H) ∧ w'.cell? ⟨w.heap.size, 2, none⟩ = some (.slice va vn vc)) ∧ w'.cell? ⟨b, o + j * 4 + 1, none⟩ = some (.int .i64 x.x1) := fun w' hg => ⟨⟨(HB0.out.grown hg).cell 0, (HB0.out.grown hg).cell 1, (HB0.out.grown hg).cell 2⟩, (at4_in HU.out (grownN_trans HG0.out hg) hlt hx).2.1⟩
      have hX0 : ∀ w', W1.grownBy w' none → w'.cell? ⟨b, o + j * 4, none⟩ = some (.int .i64 x.x0) := fun w' hg => (at4_in HU.out (grownN_trans HG0.out hg) hlt hx).1
      have HX := Lib.hid hx
      obtain ⟨x0, x1, x2, x3⟩ := x
      dsimp only at hD hX0
      have HD := Lib.hid hD
      have HX0 := Lib.hid hX0
      clear hD hX0 hx
      obtain ⟨op, hop⟩ : ∃ op, op = isOpen W H X x1 := ⟨_, rfl⟩
      have HOPP := Lib.hid hop
      clear hop
      go_wp2_with fail
      refine wp_region_held_drew (S := fun w' => (w'.cell? ⟨w.heap.size, 0, none⟩ = some (.int .i64 W) ∧ w'.cell? ⟨w.heap.size, 1, none⟩ = some (.int .i64 H) ∧ w'.cell? ⟨w.heap.size, 2, none⟩ = some (.slice va vn vc)) ∧ w'.cell? ⟨b, o + j * 4 + 1, none⟩ = some (.int .i64 x1)) (by kernel_rfl) (HD.out _ HG4.out) (fun hHeld => ?_)
      refine wpAnyH_take (i := 0) (v := ?_) rfl (by kernel_rfl) (by kernel_rfl) (by kernel_rfl) (fun _ _ _ h => h) (Or.inl ⟨by rfl, ?_⟩) (by assumption) ?_; rotate_left; (focus (intro wS hSw; (try dsimp only at hSw); go_simp <;> with_reducible rfl)); (try simp only [Act.put, List.getElem_toArray, List.getElem_cons_succ, List.getElem_cons_zero, List.setIfInBounds_toArray, List.set_cons_zero, List.set_cons_succ])
      refine wpAnyH_take (i := 1) (v := ?_) rfl (by kernel_rfl) (by kernel_rfl) (by kernel_rfl) (fun _ _ _ h => h) (Or.inl ⟨by rfl, ?_⟩) (by assumption) ?_; rotate_left; (focus (intro wS hSw; (try dsimp only at hSw); go_simp <;> with_reducible rfl)); (try simp only [Act.put, List.getElem_toArray, List.getElem_cons_succ, List.getElem_cons_zero, List.setIfInBounds_toArray, List.set_cons_zero, List.set_cons_succ])
      refine wpAnyH_take (i := 2) (v := ?_) rfl (by kernel_rfl) (by kernel_rfl) (by kernel_rfl) (fun _ _ _ h => h) (Or.inl ⟨by rfl, ?_⟩) (by assumption) ?_; rotate_left; (focus (intro wS hSw; (try dsimp only at hSw); go_simp <;> with_reducible rfl)); (try simp only [Act.put, List.getElem_toArray, List.getElem_cons_succ, List.getElem_cons_zero, List.setIfInBounds_toArray, List.set_cons_zero, List.set_cons_succ])
      refine wpAnyH_take (i := 3) (v := ?_) rfl (by kernel_rfl) (by kernel_rfl) (by kernel_rfl) (fun _ _ _ h => h) (Or.inl ⟨by rfl, ?_⟩) (by assumption) ?_; rotate_left; (focus (intro wS hSw; (try dsimp only at hSw); go_simp <;> with_reducible rfl)); (try simp only [Act.put, List.getElem_toArray, List.getElem_cons_succ, List.getElem_cons_zero, List.setIfInBounds_toArray, List.set_cons_zero, List.set_cons_succ])
      refine wpAnyH_take (i := 4) (v := ?_) rfl (by kernel_rfl) (by kernel_rfl) (by kernel_rfl) (fun _ _ _ h => h) (Or.inl ⟨by rfl, ?_⟩) (by assumption) ?_; rotate_left; (focus (intro wS hSw; (try dsimp only at hSw); go_simp <;> with_reducible rfl)); (try simp only [Act.put, List.getElem_toArray, List.getElem_cons_succ, List.getElem_cons_zero, List.setIfInBounds_toArray, List.set_cons_zero, List.set_cons_succ])
      refine wpAnyH_take (i := 5) (v := ?_) rfl (by kernel_rfl) (by kernel_rfl) (by kernel_rfl) (fun _ _ _ h => h) (Or.inl ⟨by rfl, ?_⟩) (by assumption) ?_; rotate_left; (focus (intro wS hSw; (try dsimp only at hSw); go_simp <;> with_reducible rfl)); (try simp only [Act.put, List.getElem_toArray, List.getElem_cons_succ, List.getElem_cons_zero, List.setIfInBounds_toArray, List.set_cons_zero, List.set_cons_succ])
      refine wpAnyH_ready (rs := [6]) (by kernel_rfl) (by simp) ?_; refine AllReadyH.cons rfl (fun K hK => ?_) AllReadyH.nil; go_simp; (go_at_call 26; refine (HOP.out _ x1 (HV.out.grown (grownN_trans HG0.out HG4.out))).mono ?_; rintro e w5 ⟨rfl, hg5⟩; rw [← HOPP.out]; have HG5 := Lib.hid (grownN_trans HG4.out hg5); clear hg5)
      refine hK.out _ _ ?_ (fun hHeld => ?_)
      · exact HD.out _ HG5.out
      clear hK K
      (try simp only [Act.put, List.getElem_toArray, List.getElem_cons_succ, List.getElem_cons_zero, List.setIfInBounds_toArray, List.set_cons_zero, List.set_cons_succ])
      refine wpAnyH_take (i := 7) (v := ?_) rfl (by kernel_rfl) (by kernel_rfl) (by kernel_rfl) (fun _ _ _ h => h) (Or.inl ⟨by rfl, ?_⟩) (by assumption) ?_; rotate_left; (focus (intro wS hSw; (try dsimp only at hSw); go_simp <;> with_reducible rfl)); (try simp only [Act.put, List.getElem_toArray, List.getElem_cons_succ, List.getElem_cons_zero, List.setIfInBounds_toArray, List.set_cons_zero, List.set_cons_succ])
      refine wpAnyH_done (by kernel_rfl) ?_ _
      (try simp only [Act.put, List.getElem_toArray, List.getElem_cons_succ, List.getElem_cons_zero, List.setIfInBounds_toArray, List.set_cons_zero, List.set_cons_succ])
      cases op
      · have HR : Hid (isTr W H X L = false) := tr_shut (i := j + 1) (by omega) (by rw [open_next, HX.out, ← HOPP.out, Bool.and_false])
        go_wp2
        go_ret
        exact ⟨ret_b HR.out.symm, grownN_trans HG0.out HG5.out⟩
      have HO2 : Hid (openTo W H X L (j + 1) = true) := by show _ = _; rw [open_next, HX.out, ← HOPP.out, HO.out]; rfl
      rcases Nat.eq_zero_or_pos j with hjz | hjp
      · have hgt : ¬ (0 : Int) < (j : Int) := by omega
        have HP2 : Hid (J = true → pt W H X L (j + 1) = true) := fun _ => by subst hjz; rfl
        go_wp2
        go_roundw
        case rel => exact ⟨j + 1, by omega, by go_num, HG5, HO2, HP2⟩
        case measure => simp [intOf]; omega
      · obtain ⟨k, rfl⟩ : ∃ k, j = k + 1 := ⟨j - 1, by omega⟩
        have hk : k < L.length := by omega
        obtain ⟨y, hy⟩ : ∃ y, L.getD k zI4 = y := ⟨_, rfl⟩
        have hY : ∀ w', W1.grownBy w' none → w'.cell? ⟨b, o + k * 4, none⟩ = some (.int .i64 y.x0) ∧ w'.cell? ⟨b, o + k * 4 + 1, none⟩ = some (.int .i64 y.x1) := fun w' hg => ⟨(at4_in HU.out (grownN_trans HG0.out hg) hk hy).1, (at4_in HU.out (grownN_trans HG0.out hg) hk hy).2.1⟩
        have HY := Lib.hid hy
        obtain ⟨y0, y1, y2, y3⟩ := y
        dsimp only at hY
        have HYC := Lib.hid hY
        clear hY hy
        have hkI : ((k + 1 : Nat) : Int) - 1 = (k : Int) := by omega
        have hk0 : (0 : Int) ≤ (k : Int) := by omega
        have hkl : (k : Int) < (L.length : Int) := by omega
        have hk10 : (0 : Int) ≤ (k : Int) + 1 := by omega
        have hk1l : (k : Int) + 1 < (L.length : Int) := by omega
        have hkp : (0 : Int) < (k : Int) + 1 := by omega
        have hwk : IntKind.i64.wrap (k : Int) = (k : Int) := IntWalk.i64_in _ (by omega)
        obtain ⟨z, hz⟩ : ∃ z, z = daysOf W H X y1 x1 := ⟨_, rfl⟩
        have HZ := Lib.hid hz
        obtain ⟨t, ht⟩ : ∃ t, IntKind.i64.wrap (x0 - y0) = t := ⟨_, rfl⟩
        have HT : Hid (J = true → t = x0 - y0) := fun hJt => by
          have h1 := HDB.out hJt (k + 1) hlt
          have h2 := HDB.out hJt k hk
          rw [HX.out] at h1
          rw [HY.out] at h2
          dsimp only at h1 h2
          rw [← ht]
          exact IntWalk.i64_in _ (by omega)
        have HIN : Hid (J = true → pt W H X L (k + 1 + 1) = (decide (0 ≤ z) && decide (z ≤ t))) := fun hJt => by
          rw [pt_next, HP.out hJt, HX.out, HY.out, Bool.true_and]
          show (decide (0 ≤ daysOf W H X y1 x1) && decide (daysOf W H X y1 x1 ≤ x0 - y0)) = _
          rw [← HZ.out, ← HT.out hJt]
        have HBAD : Hid (¬ (0 ≤ z ∧ z ≤ t) → isTr W H X L = false) := fun hb => by
          cases hJc : J
          · exact HNJ.out hJc
          · refine tr_late (i := k + 1) (by omega) ?_
            rw [HIN.out hJc]
            rw [← Bool.decide_and]; exact decide_eq_false hb
        have HQ6 := Lib.hid (grownN_trans HG5.out (grown_drew (World.grownBy.refl w5 none)))
        have HD2 : Hid (∀ w', W1.grownBy w' none → ((w'.cell? ⟨w.heap.size, 0, none⟩ = some (.int .i64 W) ∧ w'.cell? ⟨w.heap.size, 1, none⟩ = some (.int .i64 H) ∧ w'.cell? ⟨w.heap.size, 2, none⟩ = some (.slice va vn vc)) ∧ w'.cell? ⟨b, o + (k + 1) * 4 + 1, none⟩ = some (.int .i64 x1)) ∧ w'.cell? ⟨b, o + k * 4 + 1, none⟩ = some (.int .i64 y1)) := fun w' hg => ⟨HD.out w' hg, (HYC.out w' hg).2⟩
        have HD3 : Hid (∀ w', W1.grownBy w' none → w'.cell? ⟨b, o + (k + 1) * 4, none⟩ = some (.int .i64 x0) ∧ w'.cell? ⟨b, o + k * 4, none⟩ = some (.int .i64 y0)) := fun w' hg => ⟨HX0.out w' hg, (HYC.out w' hg).1⟩
        clear hz
        go_wp2_with fail
        refine wp_region_held_drew (S := fun w' => ((w'.cell? ⟨w.heap.size, 0, none⟩ = some (.int .i64 W) ∧ w'.cell? ⟨w.heap.size, 1, none⟩ = some (.int .i64 H) ∧ w'.cell? ⟨w.heap.size, 2, none⟩ = some (.slice va vn vc)) ∧ w'.cell? ⟨b, o + (k + 1) * 4 + 1, none⟩ = some (.int .i64 x1)) ∧ w'.cell? ⟨b, o + k * 4 + 1, none⟩ = some (.int .i64 y1)) (by kernel_rfl) (HD2.out _ HQ6.out) (fun hHeld => ?_)
        refine wpAnyH_take (i := 0) (v := ?_) rfl (by kernel_rfl) (by kernel_rfl) (by kernel_rfl) (fun _ _ _ h => h) (Or.inl ⟨by rfl, ?_⟩) (by assumption) ?_; rotate_left; (focus (intro wS hSw; (try dsimp only at hSw); go_simp <;> with_reducible rfl)); (try simp only [Act.put, List.getElem_toArray, List.getElem_cons_succ, List.getElem_cons_zero, List.setIfInBounds_toArray, List.set_cons_zero, List.set_cons_succ])
        refine wpAnyH_take (i := 1) (v := ?_) rfl (by kernel_rfl) (by kernel_rfl) (by kernel_rfl) (fun _ _ _ h => h) (Or.inl ⟨by rfl, ?_⟩) (by assumption) ?_; rotate_left; (focus (intro wS hSw; (try dsimp only at hSw); go_simp <;> with_reducible rfl)); (try simp only [Act.put, List.getElem_toArray, List.getElem_cons_succ, List.getElem_cons_zero, List.setIfInBounds_toArray, List.set_cons_zero, List.set_cons_succ])
        refine wpAnyH_take (i := 2) (v := ?_) rfl (by kernel_rfl) (by kernel_rfl) (by kernel_rfl) (fun _ _ _ h => h) (Or.inl ⟨by rfl, ?_⟩) (by assumption) ?_; rotate_left; (focus (intro wS hSw; (try dsimp only at hSw); go_simp <;> with_reducible rfl)); (try simp only [Act.put, List.getElem_toArray, List.getElem_cons_succ, List.getElem_cons_zero, List.setIfInBounds_toArray, List.set_cons_zero, List.set_cons_succ])
        refine wpAnyH_take (i := 3) (v := ?_) rfl (by kernel_rfl) (by kernel_rfl) (by kernel_rfl) (fun _ _ _ h => h) (Or.inl ⟨by rfl, ?_⟩) (by assumption) ?_; rotate_left; (focus (intro wS hSw; (try dsimp only at hSw); go_simp <;> with_reducible rfl)); (try simp only [Act.put, List.getElem_toArray, List.getElem_cons_succ, List.getElem_cons_zero, List.setIfInBounds_toArray, List.set_cons_zero, List.set_cons_succ])
        refine wpAnyH_take (i := 4) (v := ?_) rfl (by kernel_rfl) (by kernel_rfl) (by kernel_rfl) (fun _ _ _ h => h) (Or.inl ⟨by rfl, ?_⟩) (by assumption) ?_; rotate_left; (focus (intro wS hSw; (try dsimp only at hSw); go_simp <;> with_reducible rfl)); (try simp only [Act.put, List.getElem_toArray, List.getElem_cons_succ, List.getElem_cons_zero, List.setIfInBounds_toArray, List.set_cons_zero, List.set_cons_succ])
        refine wpAnyH_take (i := 5) (v := ?_) rfl (by kernel_rfl) (by kernel_rfl) (by kernel_rfl) (fun _ _ _ h => h) (Or.inl ⟨by rfl, ?_⟩) (by assumption) ?_; rotate_left; (focus (intro wS hSw; (try dsimp only at hSw); go_simp <;> with_reducible rfl)); (try simp only [Act.put, List.getElem_toArray, List.getElem_cons_succ, List.getElem_cons_zero, List.setIfInBounds_toArray, List.set_cons_zero, List.set_cons_succ])
        refine wpAnyH_take (i := 6) (v := ?_) rfl (by kernel_rfl) (by kernel_rfl) (by kernel_rfl) (fun _ _ _ h => h) (Or.inl ⟨by rfl, ?_⟩) (by assumption) ?_; rotate_left; (focus (intro wS hSw; (try dsimp only at hSw); go_simp <;> with_reducible rfl)); (try simp only [Act.put, List.getElem_toArray, List.getElem_cons_succ, List.getElem_cons_zero, List.setIfInBounds_toArray, List.set_cons_zero, List.set_cons_succ])
        refine wpAnyH_take (i := 7) (v := ?_) rfl (by kernel_rfl) (by kernel_rfl) (by kernel_rfl) (fun _ _ _ h => h) (Or.inl ⟨by rfl, ?_⟩) (by assumption) ?_; rotate_left; (focus (intro wS hSw; (try dsimp only at hSw); go_simp <;> with_reducible rfl)); (try simp only [Act.put, List.getElem_toArray, List.getElem_cons_succ, List.getElem_cons_zero, List.setIfInBounds_toArray, List.set_cons_zero, List.set_cons_succ])
        refine wpAnyH_take (i := 8) (v := ?_) rfl (by kernel_rfl) (by kernel_rfl) (by kernel_rfl) (fun _ _ _ h => h) (Or.inl ⟨by rfl, ?_⟩) (by assumption) ?_; rotate_left; (focus (intro wS hSw; (try dsimp only at hSw); go_simp <;> with_reducible rfl)); (try simp only [Act.put, List.getElem_toArray, List.getElem_cons_succ, List.getElem_cons_zero, List.setIfInBounds_toArray, List.set_cons_zero, List.set_cons_succ])
        refine wpAnyH_take (i := 9) (v := ?_) rfl (by kernel_rfl) (by kernel_rfl) (by kernel_rfl) (fun _ _ _ h => h) (Or.inl ⟨by rfl, ?_⟩) (by assumption) ?_; rotate_left; (focus (intro wS hSw; (try dsimp only at hSw); go_simp <;> with_reducible rfl)); (try simp only [Act.put, List.getElem_toArray, List.getElem_cons_succ, List.getElem_cons_zero, List.setIfInBounds_toArray, List.set_cons_zero, List.set_cons_succ])
        refine wpAnyH_take (i := 10) (v := ?_) rfl (by kernel_rfl) (by kernel_rfl) (by kernel_rfl) (fun _ _ _ h => h) (Or.inl ⟨by rfl, ?_⟩) (by assumption) ?_; rotate_left; (focus (intro wS hSw; (try dsimp only at hSw); go_simp <;> with_reducible rfl)); (try simp only [Act.put, List.getElem_toArray, List.getElem_cons_succ, List.getElem_cons_zero, List.setIfInBounds_toArray, List.set_cons_zero, List.set_cons_succ])
        refine wpAnyH_take (i := 11) (v := ?_) rfl (by kernel_rfl) (by kernel_rfl) (by kernel_rfl) (fun _ _ _ h => h) (Or.inl ⟨by rfl, ?_⟩) (by assumption) ?_; rotate_left; (focus (intro wS hSw; (try dsimp only at hSw); go_simp <;> with_reducible rfl)); (try simp only [Act.put, List.getElem_toArray, List.getElem_cons_succ, List.getElem_cons_zero, List.setIfInBounds_toArray, List.set_cons_zero, List.set_cons_succ])
        refine wpAnyH_ready (rs := [12]) (by kernel_rfl) (by simp) ?_; refine AllReadyH.cons rfl (fun K hK => ?_) AllReadyH.nil; go_simp; (go_at_call 17; refine (HDY.out _ y1 x1 (HV.out.grown (grownN_trans HG0.out HQ6.out))).mono ?_; rintro e w7 ⟨rfl, hg7⟩; rw [← HZ.out]; have HG7 := Lib.hid (grownN_trans HQ6.out hg7); clear hg7)
        refine hK.out _ _ ?_ (fun hHeld => ?_)
        · exact HD2.out _ HG7.out
        clear hK K
        (try simp only [Act.put, List.getElem_toArray, List.getElem_cons_succ, List.getElem_cons_zero, List.setIfInBounds_toArray, List.set_cons_zero, List.set_cons_succ])
        refine wpAnyH_take (i := 13) (v := ?_) rfl (by kernel_rfl) (by kernel_rfl) (by kernel_rfl) (fun _ _ _ h => h) (Or.inl ⟨by rfl, ?_⟩) (by assumption) ?_; rotate_left; (focus (intro wS hSw; (try dsimp only at hSw); go_simp <;> with_reducible rfl)); (try simp only [Act.put, List.getElem_toArray, List.getElem_cons_succ, List.getElem_cons_zero, List.setIfInBounds_toArray, List.set_cons_zero, List.set_cons_succ])
        refine wpAnyH_done (by kernel_rfl) ?_ _
        (try simp only [Act.put, List.getElem_toArray, List.getElem_cons_succ, List.getElem_cons_zero, List.setIfInBounds_toArray, List.set_cons_zero, List.set_cons_succ])
        obtain ⟨u0, u1⟩ := HD3.out _ HG7.out
        by_cases hz0 : z < 0
        · have HR : Hid (isTr W H X L = false) := HBAD.out (by omega)
          have hzb : decide (z < 0) = true := decide_eq_true hz0
          go_wp2
          go_quiet (fail)
          go_wp2
          go_ret
          exact ⟨ret_b HR.out.symm, grownN_trans HG0.out (grownN_trans HG7.out (grown_drewN (World.grownBy.refl w7 none) _))⟩
        · have hzb : decide (z < 0) = false := decide_eq_false hz0
          by_cases hzt : t < z
          · have HR : Hid (isTr W H X L = false) := HBAD.out (by omega)
            have hzc : decide (t < z) = true := decide_eq_true hzt
            go_wp2
            go_quiet (fail)
            go_wp2
            go_ret
            exact ⟨ret_b HR.out.symm, grownN_trans HG0.out (grownN_trans HG7.out (grown_drewN (World.grownBy.refl w7 none) _))⟩
          · have HP2 : Hid (J = true → pt W H X L (k + 1 + 1) = true) := fun hJt => by rw [HIN.out hJt, ← Bool.decide_and]; exact decide_eq_true ⟨by omega, by omega⟩
            have hzc : decide (t < z) = false := decide_eq_false hzt
            go_wp2
            go_quiet (fail)
            go_wp2
            go_roundw
            case rel => exact ⟨k + 1 + 1, by omega, by go_num, Lib.hid (grownN_trans HG7.out (grown_drewN (World.grownBy.refl w7 none) _)), HO2, HP2⟩
            case measure => simp [intOf]; omega
    · have hjl : j = L.length := by omega
      subst hjl
      have HR : Hid (isTr W H X L = J) := by
        show _ = _
        cases hJc : J
        · exact HNJ.out hJc
        · have h1 : pt W H X L (max 1 L.length) = true := by
            rcases Nat.eq_zero_or_pos L.length with h0 | h0
            · rw [h0]; rfl
            · rw [show max 1 L.length = L.length by omega]; exact HP.out hJc
          rw [tr_yes HO.out h1, ← HJ.out, hJc]
      go_wp2_with fail
      refine (HJJ.out _ (HU.out.grown (grownN_trans HG0.out HG.out))).mono ?_
      rintro e w9 ⟨rfl, hg⟩
      have HG9 := Lib.hid (grownN_trans (grownN_trans HG0.out HG.out) hg)
      clear hg
      go_wp2
      go_ret
      exact ⟨ret_b HR.out.symm, HG9.out⟩
end Go.Proofs.YtbpiojnehomljaaDoor.Trc

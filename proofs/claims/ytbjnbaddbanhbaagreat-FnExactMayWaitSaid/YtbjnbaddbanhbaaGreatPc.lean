/- Contract of the model's copy of a party. -/
import Derived.Test.YtbjnbaddbanhbaaGreatG10
import Derived.Test.YtbjnbaddbanhbaaGreatG3
import Derived.Test.YtbjnbaddbanhbaaGreatG9
import Derived.Deep.RegionHeld3
namespace Go.Proofs.YtbjnbaddbanhbaaGreat.Pc
open Go.RowKit Kit Rw Rg Four PartyL Cln

/-- How a call ends that hands out a party of its own. -/
def PartyOut (w w' : World) (u t : Value) (L : List Mem) (P : List Bool) : Prop := OwnG encM 117 w' w.heap.size u L ∧ OwnG encB 4 w' w.heap.size t P ∧ ApartU u t ∧ w.grownBy w' none

set_option maxRecDepth 20000 in
set_option maxHeartbeats 4000000 in
theorem copy_any (w : World) (n f : Int) (cv pv : Value) (L : List Mem) (P : List Bool) (hc : SeesG encM w cv L) (hp : SeesG encB w pv P) (hL : L.length ≤ 1000000000) (hP : P.length ≤ 1000000000) :
    Calls Tryz.prog 75 #[.agg #[.int .i64 n, .int .i64 f, cv, pv]] w fun e w' => ∃ u t, e = .returned (.agg #[.int .i64 n, .int .i64 f, u, t]) ∧ PartyOut w w' u t L P := by
  have g0 := World.grownBy_alloc w (.cells #[.int .i64 n, .int .i64 f, cv, pv] 44 (0, 0)) (none : Option Nat)
  have g1 := World.grownBy_alloc (w.alloc (.cells #[.int .i64 n, .int .i64 f, cv, pv] 44 (0, 0))) (.cells #[.int .i64 0, .int .i64 0, .slice none 0 0, .slice none 0 0] 44 (0, 0)) (none : Option Nat)
  have b0 := (box_new w #[.int .i64 n, .int .i64 f, cv, pv] 44).grown g1
  have b1 := box_new (w.alloc (.cells #[.int .i64 n, .int .i64 f, cv, pv] 44 (0, 0))) #[.int .i64 0, .int .i64 0, .slice none 0 0, .slice none 0 0] 44
  simp only [World.size_alloc] at b1
  have HG := Lib.hid (grownN_trans g0 g1)
  have HC := Lib.hid (hc.grown HG.out)
  have HP := Lib.hid (hp.grown HG.out)
  have B0 := Lib.hid b0
  have B1 := Lib.hid b1
  obtain ⟨c0, c1, c2, c3⟩ := four b0
  clear hc hp g0 g1 b0 b1
  obtain ⟨i0, hi, hz0, hz1, hz2⟩ := info_parts info_mem
  obtain ⟨j0, hj, hy0, hy1, hy2⟩ := info_parts info_boolC
  go_enter Tryz.func75, Tryz.ntmps75
  go_wp2_with fail
  generalize (w.alloc (.cells #[.int .i64 n, .int .i64 f, cv, pv] 44 (0, 0))).alloc (.cells #[.int .i64 0, .int .i64 0, .slice none 0 0, .slice none 0 0] 44 (0, 0)) = W at *
  have hkeep : ∀ w', W.grownBy w' none → (w'.cell? ⟨w.heap.size, 0, none⟩ = some (.int .i64 n) ∧ w'.cell? ⟨w.heap.size, 1, none⟩ = some (.int .i64 f) ∧ w'.cell? ⟨w.heap.size, 2, none⟩ = some cv ∧ w'.cell? ⟨w.heap.size, 3, none⟩ = some pv) := fun w' g => four (B0.out.grown g)
  have hd := grown_drew (World.grownBy.refl W none)
  refine wp_region_held_drew (S := fun w' => w'.cell? ⟨w.heap.size, 0, none⟩ = some (.int .i64 n) ∧ w'.cell? ⟨w.heap.size, 1, none⟩ = some (.int .i64 f) ∧ w'.cell? ⟨w.heap.size, 2, none⟩ = some cv ∧ w'.cell? ⟨w.heap.size, 3, none⟩ = some pv) (by kernel_rfl) (hkeep _ hd) (fun hHeld => ?_)
  have HWX0 := Lib.hid hd
  clear hd
  generalize W.drew = X0 at *
  refine wpAnyH_take (i := 0) (v := ?_) rfl (by kernel_rfl) (by kernel_rfl) (by kernel_rfl) (fun _ _ _ h => h) (Or.inl ⟨by rfl, ?_⟩) (by assumption) ?_; rotate_left; (focus (intro wS hSw; (try dsimp only at hSw); go_simp <;> with_reducible rfl)); (try simp only [Act.put, List.getElem_toArray, List.getElem_cons_succ, List.getElem_cons_zero, List.setIfInBounds_toArray, List.set_cons_zero, List.set_cons_succ])
  refine wpAnyH_take (i := 1) (v := ?_) rfl (by kernel_rfl) (by kernel_rfl) (by kernel_rfl) (fun _ _ _ h => h) (Or.inl ⟨by rfl, ?_⟩) (by assumption) ?_; rotate_left; (focus (intro wS hSw; (try dsimp only at hSw); go_simp <;> with_reducible rfl)); (try simp only [Act.put, List.getElem_toArray, List.getElem_cons_succ, List.getElem_cons_zero, List.setIfInBounds_toArray, List.set_cons_zero, List.set_cons_succ])
  refine wpAnyH_take (i := 2) (v := ?_) rfl (by kernel_rfl) (by kernel_rfl) (by kernel_rfl) (fun _ _ _ h => h) (Or.inl ⟨by rfl, ?_⟩) (by assumption) ?_; rotate_left; (focus (intro wS hSw; (try dsimp only at hSw); go_simp <;> with_reducible rfl)); (try simp only [Act.put, List.getElem_toArray, List.getElem_cons_succ, List.getElem_cons_zero, List.setIfInBounds_toArray, List.set_cons_zero, List.set_cons_succ])
  refine wpAnyH_take (i := 3) (v := ?_) rfl (by kernel_rfl) (by kernel_rfl) (by kernel_rfl) (fun _ _ _ h => h) (Or.inl ⟨by rfl, ?_⟩) (by assumption) ?_; rotate_left; (focus (intro wS hSw; (try dsimp only at hSw); go_simp <;> with_reducible rfl)); (try simp only [Act.put, List.getElem_toArray, List.getElem_cons_succ, List.getElem_cons_zero, List.setIfInBounds_toArray, List.set_cons_zero, List.set_cons_succ])
  refine wpAnyH_take (i := 5) (v := ?_) rfl (by kernel_rfl) (by kernel_rfl) (by kernel_rfl) (fun _ _ _ h => h) (Or.inl ⟨by rfl, ?_⟩) (by assumption) ?_; rotate_left; (focus (intro wS hSw; (try dsimp only at hSw); go_simp <;> with_reducible rfl)); (try simp only [Act.put, List.getElem_toArray, List.getElem_cons_succ, List.getElem_cons_zero, List.setIfInBounds_toArray, List.set_cons_zero, List.set_cons_succ])
  refine wpAnyH_take (i := 6) (v := ?_) rfl (by kernel_rfl) (by kernel_rfl) (by kernel_rfl) (fun _ _ _ h => h) (Or.inl ⟨by rfl, ?_⟩) (by assumption) ?_; rotate_left; (focus (intro wS hSw; (try dsimp only at hSw); go_simp <;> with_reducible rfl)); (try simp only [Act.put, List.getElem_toArray, List.getElem_cons_succ, List.getElem_cons_zero, List.setIfInBounds_toArray, List.set_cons_zero, List.set_cons_succ])
  refine wpAnyH_take (i := 9) (v := ?_) rfl (by kernel_rfl) (by kernel_rfl) (by kernel_rfl) (fun _ _ _ h => h) (Or.inl ⟨by rfl, ?_⟩) (by assumption) ?_; rotate_left; (focus (intro wS hSw; (try dsimp only at hSw); go_simp <;> with_reducible rfl)); (try simp only [Act.put, List.getElem_toArray, List.getElem_cons_succ, List.getElem_cons_zero, List.setIfInBounds_toArray, List.set_cons_zero, List.set_cons_succ])
  refine wpAnyH_take (i := 10) (v := ?_) rfl (by kernel_rfl) (by kernel_rfl) (by kernel_rfl) (fun _ _ _ h => h) (Or.inl ⟨by rfl, ?_⟩) (by assumption) ?_; rotate_left; (focus (intro wS hSw; (try dsimp only at hSw); go_simp <;> with_reducible rfl)); (try simp only [Act.put, List.getElem_toArray, List.getElem_cons_succ, List.getElem_cons_zero, List.setIfInBounds_toArray, List.set_cons_zero, List.set_cons_succ])
  refine wpAnyH_ready (rs := [4, 8]) (by kernel_rfl) (by simp) ?_
  refine AllReadyH.cons rfl (fun K hK => ?_) (AllReadyH.cons rfl (fun K hK => ?_) AllReadyH.nil)
  · go_simp
    have gn := World.grownBy_alloc X0 (.cells #[] 117 (0, 0)) (none : Option Nat)
    have hn := ownG_empty (e := encM) (E := 117) X0
    generalize hv : Value.slice (some ⟨X0.heap.size, 0, none⟩) 0 0 = vA at *
    have hvb : vA.ownBlock = some X0.heap.size := by rw [← hv]; rfl
    generalize X0.alloc (.cells #[] 117 (0, 0)) = x1 at *
    clear hv
    have HWx1 := Lib.hid (grownN_trans HWX0.out gn)
    have HOvAx1 := Lib.hid (hn.lower HWX0.out.size)
    clear gn hn hvb
    refine hK.out _ _ ?_ (fun hHeld => ?_)
    · exact hkeep _ HWx1.out
    clear hK K
    (try simp only [Act.put, List.getElem_toArray, List.getElem_cons_succ, List.getElem_cons_zero, List.setIfInBounds_toArray, List.set_cons_zero, List.set_cons_succ])
    refine wpAnyH_ready (rs := [7, 8]) (by kernel_rfl) (by simp) ?_
    refine AllReadyH.cons rfl (fun K hK => ?_) (AllReadyH.cons rfl (fun K hK => ?_) AllReadyH.nil)
    · refine stepG_append_at x1 (by rfl) _ _ 42 (by rfl) W.heap.size 117 i0 (.agg #[.int .i64 0, .int .i64 0, .int .i64 0, .bool false]) 32 Tryz.underlying42 hi hz0 hz1 hz2 rfl vA [] (by rfl) HOvAx1.out cv L (by rfl) (HC.out.grown HWx1.out) (by unfold maxLen; simp; omega) (by simp; omega) HWx1.out.size ?_
      intro u x2 ho hg hat
      rw [List.nil_append] at ho
      have HOux2 := Lib.hid ho
      have HWx2 := Lib.hid (grown_new HWx1.out hg (fun c hc => (HOvAx1.out.lt c hc).1))
      clear ho hg hat
      refine hK.out _ _ ?_ (fun hHeld => ?_)
      · exact hkeep _ HWx2.out
      clear hK K
      (try simp only [Act.put, List.getElem_toArray, List.getElem_cons_succ, List.getElem_cons_zero, List.setIfInBounds_toArray, List.set_cons_zero, List.set_cons_succ])
      refine wpAnyH_ready (rs := [8]) (by kernel_rfl) (by simp) ?_
      refine AllReadyH.cons rfl (fun K hK => ?_) AllReadyH.nil
      · go_simp
        have gn := World.grownBy_alloc x2 (.cells #[] 4 (0, 0)) (none : Option Nat)
        have hn := ownG_empty (e := encB) (E := 4) x2
        generalize hv : Value.slice (some ⟨x2.heap.size, 0, none⟩) 0 0 = vB at *
        have hvb : vB.ownBlock = some x2.heap.size := by rw [← hv]; rfl
        generalize x2.alloc (.cells #[] 4 (0, 0)) = x3 at *
        clear hv
        have HWx3 := Lib.hid (grownN_trans HWx2.out gn)
        have HOvBx3 := Lib.hid (hn.lower HWx2.out.size)
        have HOux3 := Lib.hid (HOux2.out.grown gn)
        have HAPx3 := Lib.hid (apartU_new HOux2.out hvb)
        clear gn hn hvb
        refine hK.out _ _ ?_ (fun hHeld => ?_)
        · exact hkeep _ HWx3.out
        clear hK K
        (try simp only [Act.put, List.getElem_toArray, List.getElem_cons_succ, List.getElem_cons_zero, List.setIfInBounds_toArray, List.set_cons_zero, List.set_cons_succ])
        refine wpAnyH_ready (rs := [11]) (by kernel_rfl) (by simp) ?_
        refine AllReadyH.cons rfl (fun K hK => ?_) AllReadyH.nil
        · refine stepG_append_at x3 (by rfl) _ _ 29 (by rfl) W.heap.size 4 j0 (.bool false) 1 Tryz.underlying29 hj hy0 hy1 hy2 rfl vB [] (by rfl) HOvBx3.out pv P (by rfl) (HP.out.grown HWx3.out) (by unfold maxLen; simp; omega) (by simp; omega) HWx3.out.size ?_
          intro t x4 ho hg hat
          rw [List.nil_append] at ho
          have HOtx4 := Lib.hid ho
          have HWx4 := Lib.hid (grown_new HWx3.out hg (fun c hc => (HOvBx3.out.lt c hc).1))
          have HOux4 := Lib.hid (HOux3.out.kept hg HAPx3.out.1)
          have HAPx4 := Lib.hid ((apartU_step HOux3.out (HAPx3.out).symm hat).symm)
          clear ho hg hat
          refine hK.out _ _ ?_ (fun hHeld => ?_)
          · exact hkeep _ HWx4.out
          clear hK K
          (try simp only [Act.put, List.getElem_toArray, List.getElem_cons_succ, List.getElem_cons_zero, List.setIfInBounds_toArray, List.set_cons_zero, List.set_cons_succ])
          have hU := HOux4.out.sees.shape
          have hT := HOtx4.out.sees.shape
          obtain ⟨ua, un, uc, hu, HUN⟩ := hU
          obtain ⟨ta, tn, tc, ht, HTN⟩ := hT
          subst hu
          subst ht
          refine wpAnyH_take (i := 12) (v := ?_) rfl (by kernel_rfl) (by kernel_rfl) (by kernel_rfl) (fun _ _ _ h => h) (Or.inl ⟨by rfl, ?_⟩) (by assumption) ?_; rotate_left; (focus (intro wS hSw; (try dsimp only at hSw); go_simp <;> with_reducible rfl)); (try simp only [Act.put, List.getElem_toArray, List.getElem_cons_succ, List.getElem_cons_zero, List.setIfInBounds_toArray, List.set_cons_zero, List.set_cons_succ])
          have hB := B1.out.grown HWx4.out
          obtain ⟨⟨p0, r0⟩, ⟨p1, r1⟩, ⟨p2, r2⟩, ⟨p3, r3⟩⟩ := put4_on hB (.int .i64 n) (.int .i64 f) (.slice ua un uc) (.slice ta tn tc)
          have HB := Lib.hid hB
          clear hB
          refine wpAnyH_ready (rs := [13]) (by kernel_rfl) (by simp) ?_
          refine AllReadyH.cons rfl (fun K hK => ?_) AllReadyH.nil
          go_simp
          refine hK.out _ _ ?_ (fun hHeld => ?_)
          · exact four ((B0.out.grown HWx4.out).kept (put4_grown _ _ _ _ _ _) (by intro e; injection e with e; omega))
          clear hK K
          refine wpAnyH_done (by kernel_rfl) ?_ _
          (try simp only [Act.put, List.getElem_toArray, List.getElem_cons_succ, List.getElem_cons_zero, List.setIfInBounds_toArray, List.set_cons_zero, List.set_cons_succ])
          go_wp2
          try simp only [Exit.inBlock, Exit.then]
          refine ret_box rfl rfl (put4_box (x' := .int .i64 n) (y' := .int .i64 f) (z' := (.slice ua un uc)) (u' := (.slice ta tn tc)) HB.out) Tryz.underlying44 rfl (by kernel_rfl) rfl ?_
          have hP4 := put4_grown x4 (w.heap.size + 1) (.int .i64 n) (.int .i64 f) (.slice ua un uc) (.slice ta tn tc)
          have hlt := B1.out.lt
          exact ⟨(.slice ua un uc), (.slice ta tn tc), rfl, (HOux4.out.kept hP4 (.inr (HOux4.out.off (by omega)))).lower (by omega), (HOtx4.out.kept hP4 (.inr (HOtx4.out.off (by omega)))).lower (by omega), HAPx4.out, grown_new (grownN_trans HG.out HWx4.out) hP4 (fun c h => by injection h with h; omega)⟩
    · go_simp
      have gn := World.grownBy_alloc x1 (.cells #[] 4 (0, 0)) (none : Option Nat)
      have hn := ownG_empty (e := encB) (E := 4) x1
      generalize hv : Value.slice (some ⟨x1.heap.size, 0, none⟩) 0 0 = vB at *
      have hvb : vB.ownBlock = some x1.heap.size := by rw [← hv]; rfl
      generalize x1.alloc (.cells #[] 4 (0, 0)) = x2 at *
      clear hv
      have HWx2 := Lib.hid (grownN_trans HWx1.out gn)
      have HOvBx2 := Lib.hid (hn.lower HWx1.out.size)
      have HOvAx2 := Lib.hid (HOvAx1.out.grown gn)
      have HAPx2 := Lib.hid (apartU_new HOvAx1.out hvb)
      clear gn hn hvb
      refine hK.out _ _ ?_ (fun hHeld => ?_)
      · exact hkeep _ HWx2.out
      clear hK K
      (try simp only [Act.put, List.getElem_toArray, List.getElem_cons_succ, List.getElem_cons_zero, List.setIfInBounds_toArray, List.set_cons_zero, List.set_cons_succ])
      refine wpAnyH_ready (rs := [7]) (by kernel_rfl) (by simp) ?_
      refine AllReadyH.cons rfl (fun K hK => ?_) AllReadyH.nil
      · refine stepG_append_at x2 (by rfl) _ _ 42 (by rfl) W.heap.size 117 i0 (.agg #[.int .i64 0, .int .i64 0, .int .i64 0, .bool false]) 32 Tryz.underlying42 hi hz0 hz1 hz2 rfl vA [] (by rfl) HOvAx2.out cv L (by rfl) (HC.out.grown HWx2.out) (by unfold maxLen; simp; omega) (by simp; omega) HWx2.out.size ?_
        intro u x3 ho hg hat
        rw [List.nil_append] at ho
        have HOux3 := Lib.hid ho
        have HWx3 := Lib.hid (grown_new HWx2.out hg (fun c hc => (HOvAx2.out.lt c hc).1))
        have HOvBx3 := Lib.hid (HOvBx2.out.kept hg HAPx2.out.2)
        have HAPx3 := Lib.hid (apartU_step HOvBx2.out HAPx2.out hat)
        clear ho hg hat
        refine hK.out _ _ ?_ (fun hHeld => ?_)
        · exact hkeep _ HWx3.out
        clear hK K
        (try simp only [Act.put, List.getElem_toArray, List.getElem_cons_succ, List.getElem_cons_zero, List.setIfInBounds_toArray, List.set_cons_zero, List.set_cons_succ])
        refine wpAnyH_ready (rs := [11]) (by kernel_rfl) (by simp) ?_
        refine AllReadyH.cons rfl (fun K hK => ?_) AllReadyH.nil
        · refine stepG_append_at x3 (by rfl) _ _ 29 (by rfl) W.heap.size 4 j0 (.bool false) 1 Tryz.underlying29 hj hy0 hy1 hy2 rfl vB [] (by rfl) HOvBx3.out pv P (by rfl) (HP.out.grown HWx3.out) (by unfold maxLen; simp; omega) (by simp; omega) HWx3.out.size ?_
          intro t x4 ho hg hat
          rw [List.nil_append] at ho
          have HOtx4 := Lib.hid ho
          have HWx4 := Lib.hid (grown_new HWx3.out hg (fun c hc => (HOvBx3.out.lt c hc).1))
          have HOux4 := Lib.hid (HOux3.out.kept hg HAPx3.out.1)
          have HAPx4 := Lib.hid ((apartU_step HOux3.out (HAPx3.out).symm hat).symm)
          clear ho hg hat
          refine hK.out _ _ ?_ (fun hHeld => ?_)
          · exact hkeep _ HWx4.out
          clear hK K
          (try simp only [Act.put, List.getElem_toArray, List.getElem_cons_succ, List.getElem_cons_zero, List.setIfInBounds_toArray, List.set_cons_zero, List.set_cons_succ])
          have hU := HOux4.out.sees.shape
          have hT := HOtx4.out.sees.shape
          obtain ⟨ua, un, uc, hu, HUN⟩ := hU
          obtain ⟨ta, tn, tc, ht, HTN⟩ := hT
          subst hu
          subst ht
          refine wpAnyH_take (i := 12) (v := ?_) rfl (by kernel_rfl) (by kernel_rfl) (by kernel_rfl) (fun _ _ _ h => h) (Or.inl ⟨by rfl, ?_⟩) (by assumption) ?_; rotate_left; (focus (intro wS hSw; (try dsimp only at hSw); go_simp <;> with_reducible rfl)); (try simp only [Act.put, List.getElem_toArray, List.getElem_cons_succ, List.getElem_cons_zero, List.setIfInBounds_toArray, List.set_cons_zero, List.set_cons_succ])
          have hB := B1.out.grown HWx4.out
          obtain ⟨⟨p0, r0⟩, ⟨p1, r1⟩, ⟨p2, r2⟩, ⟨p3, r3⟩⟩ := put4_on hB (.int .i64 n) (.int .i64 f) (.slice ua un uc) (.slice ta tn tc)
          have HB := Lib.hid hB
          clear hB
          refine wpAnyH_ready (rs := [13]) (by kernel_rfl) (by simp) ?_
          refine AllReadyH.cons rfl (fun K hK => ?_) AllReadyH.nil
          go_simp
          refine hK.out _ _ ?_ (fun hHeld => ?_)
          · exact four ((B0.out.grown HWx4.out).kept (put4_grown _ _ _ _ _ _) (by intro e; injection e with e; omega))
          clear hK K
          refine wpAnyH_done (by kernel_rfl) ?_ _
          (try simp only [Act.put, List.getElem_toArray, List.getElem_cons_succ, List.getElem_cons_zero, List.setIfInBounds_toArray, List.set_cons_zero, List.set_cons_succ])
          go_wp2
          try simp only [Exit.inBlock, Exit.then]
          refine ret_box rfl rfl (put4_box (x' := .int .i64 n) (y' := .int .i64 f) (z' := (.slice ua un uc)) (u' := (.slice ta tn tc)) HB.out) Tryz.underlying44 rfl (by kernel_rfl) rfl ?_
          have hP4 := put4_grown x4 (w.heap.size + 1) (.int .i64 n) (.int .i64 f) (.slice ua un uc) (.slice ta tn tc)
          have hlt := B1.out.lt
          exact ⟨(.slice ua un uc), (.slice ta tn tc), rfl, (HOux4.out.kept hP4 (.inr (HOux4.out.off (by omega)))).lower (by omega), (HOtx4.out.kept hP4 (.inr (HOtx4.out.off (by omega)))).lower (by omega), HAPx4.out, grown_new (grownN_trans HG.out HWx4.out) hP4 (fun c h => by injection h with h; omega)⟩
  · go_simp
    have gn := World.grownBy_alloc X0 (.cells #[] 4 (0, 0)) (none : Option Nat)
    have hn := ownG_empty (e := encB) (E := 4) X0
    generalize hv : Value.slice (some ⟨X0.heap.size, 0, none⟩) 0 0 = vB at *
    have hvb : vB.ownBlock = some X0.heap.size := by rw [← hv]; rfl
    generalize X0.alloc (.cells #[] 4 (0, 0)) = x1 at *
    clear hv
    have HWx1 := Lib.hid (grownN_trans HWX0.out gn)
    have HOvBx1 := Lib.hid (hn.lower HWX0.out.size)
    clear gn hn hvb
    refine hK.out _ _ ?_ (fun hHeld => ?_)
    · exact hkeep _ HWx1.out
    clear hK K
    (try simp only [Act.put, List.getElem_toArray, List.getElem_cons_succ, List.getElem_cons_zero, List.setIfInBounds_toArray, List.set_cons_zero, List.set_cons_succ])
    refine wpAnyH_ready (rs := [4]) (by kernel_rfl) (by simp) ?_
    refine AllReadyH.cons rfl (fun K hK => ?_) AllReadyH.nil
    · go_simp
      have gn := World.grownBy_alloc x1 (.cells #[] 117 (0, 0)) (none : Option Nat)
      have hn := ownG_empty (e := encM) (E := 117) x1
      generalize hv : Value.slice (some ⟨x1.heap.size, 0, none⟩) 0 0 = vA at *
      have hvb : vA.ownBlock = some x1.heap.size := by rw [← hv]; rfl
      generalize x1.alloc (.cells #[] 117 (0, 0)) = x2 at *
      clear hv
      have HWx2 := Lib.hid (grownN_trans HWx1.out gn)
      have HOvAx2 := Lib.hid (hn.lower HWx1.out.size)
      have HOvBx2 := Lib.hid (HOvBx1.out.grown gn)
      have HAPx2 := Lib.hid ((apartU_new HOvBx1.out hvb).symm)
      clear gn hn hvb
      refine hK.out _ _ ?_ (fun hHeld => ?_)
      · exact hkeep _ HWx2.out
      clear hK K
      (try simp only [Act.put, List.getElem_toArray, List.getElem_cons_succ, List.getElem_cons_zero, List.setIfInBounds_toArray, List.set_cons_zero, List.set_cons_succ])
      refine wpAnyH_ready (rs := [7]) (by kernel_rfl) (by simp) ?_
      refine AllReadyH.cons rfl (fun K hK => ?_) AllReadyH.nil
      · refine stepG_append_at x2 (by rfl) _ _ 42 (by rfl) W.heap.size 117 i0 (.agg #[.int .i64 0, .int .i64 0, .int .i64 0, .bool false]) 32 Tryz.underlying42 hi hz0 hz1 hz2 rfl vA [] (by rfl) HOvAx2.out cv L (by rfl) (HC.out.grown HWx2.out) (by unfold maxLen; simp; omega) (by simp; omega) HWx2.out.size ?_
        intro u x3 ho hg hat
        rw [List.nil_append] at ho
        have HOux3 := Lib.hid ho
        have HWx3 := Lib.hid (grown_new HWx2.out hg (fun c hc => (HOvAx2.out.lt c hc).1))
        have HOvBx3 := Lib.hid (HOvBx2.out.kept hg HAPx2.out.2)
        have HAPx3 := Lib.hid (apartU_step HOvBx2.out HAPx2.out hat)
        clear ho hg hat
        refine hK.out _ _ ?_ (fun hHeld => ?_)
        · exact hkeep _ HWx3.out
        clear hK K
        (try simp only [Act.put, List.getElem_toArray, List.getElem_cons_succ, List.getElem_cons_zero, List.setIfInBounds_toArray, List.set_cons_zero, List.set_cons_succ])
        refine wpAnyH_ready (rs := [11]) (by kernel_rfl) (by simp) ?_
        refine AllReadyH.cons rfl (fun K hK => ?_) AllReadyH.nil
        · refine stepG_append_at x3 (by rfl) _ _ 29 (by rfl) W.heap.size 4 j0 (.bool false) 1 Tryz.underlying29 hj hy0 hy1 hy2 rfl vB [] (by rfl) HOvBx3.out pv P (by rfl) (HP.out.grown HWx3.out) (by unfold maxLen; simp; omega) (by simp; omega) HWx3.out.size ?_
          intro t x4 ho hg hat
          rw [List.nil_append] at ho
          have HOtx4 := Lib.hid ho
          have HWx4 := Lib.hid (grown_new HWx3.out hg (fun c hc => (HOvBx3.out.lt c hc).1))
          have HOux4 := Lib.hid (HOux3.out.kept hg HAPx3.out.1)
          have HAPx4 := Lib.hid ((apartU_step HOux3.out (HAPx3.out).symm hat).symm)
          clear ho hg hat
          refine hK.out _ _ ?_ (fun hHeld => ?_)
          · exact hkeep _ HWx4.out
          clear hK K
          (try simp only [Act.put, List.getElem_toArray, List.getElem_cons_succ, List.getElem_cons_zero, List.setIfInBounds_toArray, List.set_cons_zero, List.set_cons_succ])
          have hU := HOux4.out.sees.shape
          have hT := HOtx4.out.sees.shape
          obtain ⟨ua, un, uc, hu, HUN⟩ := hU
          obtain ⟨ta, tn, tc, ht, HTN⟩ := hT
          subst hu
          subst ht
          refine wpAnyH_take (i := 12) (v := ?_) rfl (by kernel_rfl) (by kernel_rfl) (by kernel_rfl) (fun _ _ _ h => h) (Or.inl ⟨by rfl, ?_⟩) (by assumption) ?_; rotate_left; (focus (intro wS hSw; (try dsimp only at hSw); go_simp <;> with_reducible rfl)); (try simp only [Act.put, List.getElem_toArray, List.getElem_cons_succ, List.getElem_cons_zero, List.setIfInBounds_toArray, List.set_cons_zero, List.set_cons_succ])
          have hB := B1.out.grown HWx4.out
          obtain ⟨⟨p0, r0⟩, ⟨p1, r1⟩, ⟨p2, r2⟩, ⟨p3, r3⟩⟩ := put4_on hB (.int .i64 n) (.int .i64 f) (.slice ua un uc) (.slice ta tn tc)
          have HB := Lib.hid hB
          clear hB
          refine wpAnyH_ready (rs := [13]) (by kernel_rfl) (by simp) ?_
          refine AllReadyH.cons rfl (fun K hK => ?_) AllReadyH.nil
          go_simp
          refine hK.out _ _ ?_ (fun hHeld => ?_)
          · exact four ((B0.out.grown HWx4.out).kept (put4_grown _ _ _ _ _ _) (by intro e; injection e with e; omega))
          clear hK K
          refine wpAnyH_done (by kernel_rfl) ?_ _
          (try simp only [Act.put, List.getElem_toArray, List.getElem_cons_succ, List.getElem_cons_zero, List.setIfInBounds_toArray, List.set_cons_zero, List.set_cons_succ])
          go_wp2
          try simp only [Exit.inBlock, Exit.then]
          refine ret_box rfl rfl (put4_box (x' := .int .i64 n) (y' := .int .i64 f) (z' := (.slice ua un uc)) (u' := (.slice ta tn tc)) HB.out) Tryz.underlying44 rfl (by kernel_rfl) rfl ?_
          have hP4 := put4_grown x4 (w.heap.size + 1) (.int .i64 n) (.int .i64 f) (.slice ua un uc) (.slice ta tn tc)
          have hlt := B1.out.lt
          exact ⟨(.slice ua un uc), (.slice ta tn tc), rfl, (HOux4.out.kept hP4 (.inr (HOux4.out.off (by omega)))).lower (by omega), (HOtx4.out.kept hP4 (.inr (HOtx4.out.off (by omega)))).lower (by omega), HAPx4.out, grown_new (grownN_trans HG.out HWx4.out) hP4 (fun c h => by injection h with h; omega)⟩
end Go.Proofs.YtbjnbaddbanhbaaGreat.Pc

/- Contracts of the food needed for the way home, of the program and of its model. -/
import Derived.Test.YtfcjbkagofccdaaWayS
import Derived.Test.YtfcjbkagofccdaaWayI
import Derived.Test.YtfcjbkagofccdaaStW
import Derived.Test.YtfcjbkagofccdaaStV
import Derived.Test.YtfcjbkagofccdaaStL
import Derived.Test.YtfcjbkagofccdaaPa
import Derived.Test.YtfcjbkagofccdaaPartyL
import Derived.IntWalk
import Derived.Deep.RegionLaw
import Derived.Deep.RegionHeld3
namespace Go.Proofs.Ytfcjbkagofccdaa.Need
open Go.RowKit Kit Rw Rg Ld Bfs Wf LandS Stm StI Crw CrS CrI Four Pa PartyL

noncomputable def needHome (W H : Int) (X : List Int) (base m rn n f : Int) (L : List Mem) (P : List Bool) : Int :=
  if isParty W H X n f L P = true ∧ 0 ≤ worstOf m rn P (daysOf W H X n base) then needOf L * worstOf m rn P (daysOf W H X n base) else -1
theorem worst_top (m n k : Int) (L : List Bool) : worstOf m n L k ≤ 5000 := by
  by_cases h : k ≤ 201
  · exact worstOf_high h
  · rw [worstOf_no (fun h1 => by omega)]; omega
theorem need_top {L : List Mem} {k : Int} (h0 : 0 ≤ k) (h1 : k ≤ 5000) : 0 ≤ needOf L * k ∧ needOf L * k ≤ 4000000 := by
  have h2 := needOf_bound L
  refine ⟨Int.mul_nonneg h2.1 h0, ?_⟩
  calc needOf L * k ≤ 800 * 5000 := Int.mul_le_mul h2.2 h1 h0 (by omega)
  _ = 4000000 := by decide

/-- The three structs that came in, in their blocks. -/
structure NB (w wx : World) (A B C : Nat) (W H m rn n f : Int) (xv cv pv : Value) (X : List Int) (L : List Mem) (P : List Bool) : Prop where
  land : Box wx A #[.int .i64 W, .int .i64 H, xv] 50
  rule : Box wx B #[.int .i64 m, .int .i64 rn] 64
  party : Box wx C #[.int .i64 n, .int .i64 f, cv, pv] 37
  sx : Sees .i64 wx xv X
  sc : SeesG encM wx cv L
  sp : SeesG encB wx pv P
  grown : w.grownBy wx none
section
variable {w wx wy : World} {A B C : Nat} {W H m rn n f : Int} {xv cv pv : Value} {X : List Int} {L : List Mem} {P : List Bool}
theorem NB.on (h : NB w wx A B C W H m rn n f xv cv pv X L P) (hg : wx.grownBy wy none) : NB w wy A B C W H m rn n f xv cv pv X L P :=
  ⟨h.land.grown hg, h.rule.grown hg, h.party.grown hg, h.sx.grown hg, h.sc.grown hg, h.sp.grown hg, grownN_trans h.grown hg⟩
theorem NB.start (hx : Sees .i64 w xv X) (hc : SeesG encM w cv L) (hp : SeesG encB w pv P) :
    NB w (((w.alloc (.cells #[.int .i64 W, .int .i64 H, xv] 50 (0, 0))).alloc (.cells #[.int .i64 m, .int .i64 rn] 64 (0, 0))).alloc (.cells #[.int .i64 n, .int .i64 f, cv, pv] 37 (0, 0))) w.heap.size (w.heap.size + 1) (w.heap.size + 1 + 1) W H m rn n f xv cv pv X L P := by
  have g1 := World.grownBy_alloc w (.cells #[.int .i64 W, .int .i64 H, xv] 50 (0, 0)) (none : Option Nat)
  have g2 := World.grownBy_alloc (w.alloc (.cells #[.int .i64 W, .int .i64 H, xv] 50 (0, 0))) (.cells #[.int .i64 m, .int .i64 rn] 64 (0, 0)) (none : Option Nat)
  have g3 := World.grownBy_alloc ((w.alloc (.cells #[.int .i64 W, .int .i64 H, xv] 50 (0, 0))).alloc (.cells #[.int .i64 m, .int .i64 rn] 64 (0, 0))) (.cells #[.int .i64 n, .int .i64 f, cv, pv] 37 (0, 0)) (none : Option Nat)
  have b2 := box_new (w.alloc (.cells #[.int .i64 W, .int .i64 H, xv] 50 (0, 0))) #[.int .i64 m, .int .i64 rn] 64
  have b3 := box_new ((w.alloc (.cells #[.int .i64 W, .int .i64 H, xv] 50 (0, 0))).alloc (.cells #[.int .i64 m, .int .i64 rn] 64 (0, 0))) #[.int .i64 n, .int .i64 f, cv, pv] 37
  simp only [World.size_alloc] at b2 b3
  have g := grownN_trans g1 (grownN_trans g2 g3)
  exact ⟨(box_new w _ _).grown (grownN_trans g2 g3), b2.grown g3, b3, hx.grown g, hc.grown g, hp.grown g, g⟩
theorem NB.cells (h : NB w wx A B C W H m rn n f xv cv pv X L P) : (wx.cell? ⟨A, 0, none⟩ = some (.int .i64 W) ∧ wx.cell? ⟨A, 1, none⟩ = some (.int .i64 H) ∧ wx.cell? ⟨A, 2, none⟩ = some xv) ∧ (wx.cell? ⟨B, 0, none⟩ = some (.int .i64 m) ∧ wx.cell? ⟨B, 1, none⟩ = some (.int .i64 rn)) ∧
    (wx.cell? ⟨C, 0, none⟩ = some (.int .i64 n) ∧ wx.cell? ⟨C, 1, none⟩ = some (.int .i64 f) ∧ wx.cell? ⟨C, 2, none⟩ = some cv ∧ wx.cell? ⟨C, 3, none⟩ = some pv) :=
  ⟨h.land.three, ⟨h.rule.cell 0, h.rule.cell 1⟩, Four.four h.party⟩
end

set_option maxRecDepth 20000 in
set_option maxHeartbeats 4000000 in
theorem iNeed_any (w : World) (W H base m rn n f : Int) (xv cv pv : Value) (X : List Int) (L : List Mem) (P : List Bool) (hm : (Lit.int .i64 m).wf = true) (hrn : (Lit.int .i64 rn).wf = true) (hx : Sees .i64 w xv X) (hc : SeesG encM w cv L) (hp : SeesG encB w pv P) :
    Calls Try.prog 39 #[.agg #[.int .i64 W, .int .i64 H, xv], .int .i64 base, .agg #[.int .i64 m, .int .i64 rn], .agg #[.int .i64 n, .int .i64 f, cv, pv]] w fun e w' => e = .returned (.int .i64 (needHome W H X base m rn n f L P)) ∧ w.grownBy w' none := by
  obtain ⟨xa, xn, xc, hxv, HXN⟩ := hx.shape
  subst hxv
  obtain ⟨ca, cn, cc, hcv, HCN⟩ := hc.shape
  subst hcv
  obtain ⟨pa, pn, pc, hpv, HPN⟩ := hp.shape
  subst hpv
  have HB := Lib.hid (NB.start (W := W) (H := H) (m := m) (rn := rn) (n := n) (f := f) hx hc hp)
  have HM := Lib.hid hm
  have HN := Lib.hid hrn
  obtain ⟨d, hd⟩ : ∃ d, d = daysOf W H X n base := ⟨_, rfl⟩
  obtain ⟨k, hk⟩ : ∃ k, k = worstOf m rn P d := ⟨_, rfl⟩
  obtain ⟨b, hb⟩ : ∃ b, b = isParty W H X n f L P := ⟨_, rfl⟩
  obtain ⟨q, hq⟩ : ∃ q, q = needOf L := ⟨_, rfl⟩
  have hkt := worst_top m rn d P
  have hkl := worstOf_low m rn d P
  rw [← hk] at hkt hkl
  have HI : Hid (needHome W H X base m rn n f L P = if b = true ∧ 0 ≤ k then q * k else -1) := by show _ = _; unfold needHome; rw [← hd, ← hk, ← hb, ← hq]
  have hqk := fun h0 : 0 ≤ k => need_top (L := L) h0 hkt
  rw [← hq] at hqk
  have HD := Lib.hid hd
  have HK := Lib.hid hk
  have HBB := Lib.hid hb
  have HQ := Lib.hid hq
  have HQK := Lib.hid hqk
  clear hx hc hp hm hrn hd hk hb hq hqk
  go_enter Try.func39, Try.ntmps39
  go_wp2_with fail
  generalize ((w.alloc (.cells #[.int .i64 W, .int .i64 H, .slice xa xn xc] 50 (0, 0))).alloc (.cells #[.int .i64 m, .int .i64 rn] 64 (0, 0))).alloc (.cells #[.int .i64 n, .int .i64 f, .slice ca cn cc, .slice pa pn pc] 37 (0, 0)) = W0 at *
  have HBD := Lib.hid (HB.out.on (grown_drew (World.grownBy.refl W0 none)))
  generalize w.heap.size = A at *
  refine wp_region_held_drew (S := fun w' => (w'.cell? ⟨A, 0, none⟩ = some (.int .i64 W) ∧ w'.cell? ⟨A, 1, none⟩ = some (.int .i64 H) ∧ w'.cell? ⟨A, 2, none⟩ = some (.slice xa xn xc)) ∧ (w'.cell? ⟨A + 1, 0, none⟩ = some (.int .i64 m) ∧ w'.cell? ⟨A + 1, 1, none⟩ = some (.int .i64 rn)) ∧ (w'.cell? ⟨A + 1 + 1, 0, none⟩ = some (.int .i64 n) ∧ w'.cell? ⟨A + 1 + 1, 1, none⟩ = some (.int .i64 f) ∧ w'.cell? ⟨A + 1 + 1, 2, none⟩ = some (.slice ca cn cc) ∧ w'.cell? ⟨A + 1 + 1, 3, none⟩ = some (.slice pa pn pc))) (by kernel_rfl) HBD.out.cells (fun hHeld => ?_)
  refine wpAnyH_take (i := 0) (v := ?_) rfl (by kernel_rfl) (by kernel_rfl) (by kernel_rfl) (fun _ _ _ h => h) (Or.inl ⟨by rfl, ?_⟩) (by assumption) ?_; rotate_left; (focus (intro wS hSw; (try dsimp only at hSw); go_simp <;> with_reducible rfl)); (try simp only [Act.put, List.getElem_toArray, List.getElem_cons_succ, List.getElem_cons_zero, List.setIfInBounds_toArray, List.set_cons_zero, List.set_cons_succ])
  refine wpAnyH_take (i := 1) (v := ?_) rfl (by kernel_rfl) (by kernel_rfl) (by kernel_rfl) (fun _ _ _ h => h) (Or.inl ⟨by rfl, ?_⟩) (by assumption) ?_; rotate_left; (focus (intro wS hSw; (try dsimp only at hSw); go_simp <;> with_reducible rfl)); (try simp only [Act.put, List.getElem_toArray, List.getElem_cons_succ, List.getElem_cons_zero, List.setIfInBounds_toArray, List.set_cons_zero, List.set_cons_succ])
  refine wpAnyH_take (i := 2) (v := ?_) rfl (by kernel_rfl) (by kernel_rfl) (by kernel_rfl) (fun _ _ _ h => h) (Or.inl ⟨by rfl, ?_⟩) (by assumption) ?_; rotate_left; (focus (intro wS hSw; (try dsimp only at hSw); go_simp <;> with_reducible rfl)); (try simp only [Act.put, List.getElem_toArray, List.getElem_cons_succ, List.getElem_cons_zero, List.setIfInBounds_toArray, List.set_cons_zero, List.set_cons_succ])
  refine wpAnyH_take (i := 3) (v := ?_) rfl (by kernel_rfl) (by kernel_rfl) (by kernel_rfl) (fun _ _ _ h => h) (Or.inl ⟨by rfl, ?_⟩) (by assumption) ?_; rotate_left; (focus (intro wS hSw; (try dsimp only at hSw); go_simp <;> with_reducible rfl)); (try simp only [Act.put, List.getElem_toArray, List.getElem_cons_succ, List.getElem_cons_zero, List.setIfInBounds_toArray, List.set_cons_zero, List.set_cons_succ])
  refine wpAnyH_take (i := 4) (v := ?_) rfl (by kernel_rfl) (by kernel_rfl) (by kernel_rfl) (fun _ _ _ h => h) (Or.inl ⟨by rfl, ?_⟩) (by assumption) ?_; rotate_left; (focus (intro wS hSw; (try dsimp only at hSw); go_simp <;> with_reducible rfl)); (try simp only [Act.put, List.getElem_toArray, List.getElem_cons_succ, List.getElem_cons_zero, List.setIfInBounds_toArray, List.set_cons_zero, List.set_cons_succ])
  refine wpAnyH_take (i := 5) (v := ?_) rfl (by kernel_rfl) (by kernel_rfl) (by kernel_rfl) (fun _ _ _ h => h) (Or.inl ⟨by rfl, ?_⟩) (by assumption) ?_; rotate_left; (focus (intro wS hSw; (try dsimp only at hSw); go_simp <;> with_reducible rfl)); (try simp only [Act.put, List.getElem_toArray, List.getElem_cons_succ, List.getElem_cons_zero, List.setIfInBounds_toArray, List.set_cons_zero, List.set_cons_succ])
  refine wpAnyH_take (i := 6) (v := ?_) rfl (by kernel_rfl) (by kernel_rfl) (by kernel_rfl) (fun _ _ _ h => h) (Or.inl ⟨by rfl, ?_⟩) (by assumption) ?_; rotate_left; (focus (intro wS hSw; (try dsimp only at hSw); go_simp <;> with_reducible rfl)); (try simp only [Act.put, List.getElem_toArray, List.getElem_cons_succ, List.getElem_cons_zero, List.setIfInBounds_toArray, List.set_cons_zero, List.set_cons_succ])
  refine wpAnyH_ready (rs := [7]) (by kernel_rfl) (by simp) ?_; refine AllReadyH.cons rfl (fun K hK => ?_) AllReadyH.nil; go_simp; (go_at_call 76; refine (WayI.days_any _ W H n base _ X HBD.out.sx).mono ?_; rintro e w2 ⟨rfl, hg⟩; rw [← HD.out]; have HB2 := Lib.hid (HBD.out.on hg); clear hg)
  refine hK.out _ _ ?_ (fun hHeld => ?_)
  · exact HB2.out.cells
  clear hK K
  (try simp only [Act.put, List.getElem_toArray, List.getElem_cons_succ, List.getElem_cons_zero, List.setIfInBounds_toArray, List.set_cons_zero, List.set_cons_succ])
  refine wpAnyH_ready (rs := [8]) (by kernel_rfl) (by simp) ?_; refine AllReadyH.cons rfl (fun K hK => ?_) AllReadyH.nil; go_simp; (go_at_call 75; refine (iWorst_any _ m rn d HM.out HN.out _ P HB2.out.sp).mono ?_; rintro e w3 ⟨rfl, hg⟩; rw [← HK.out]; have HB3 := Lib.hid (HB2.out.on hg); clear hg)
  refine hK.out _ _ ?_ (fun hHeld => ?_)
  · exact HB3.out.cells
  clear hK K
  (try simp only [Act.put, List.getElem_toArray, List.getElem_cons_succ, List.getElem_cons_zero, List.setIfInBounds_toArray, List.set_cons_zero, List.set_cons_succ])
  refine wpAnyH_take (i := 9) (v := ?_) rfl (by kernel_rfl) (by kernel_rfl) (by kernel_rfl) (fun _ _ _ h => h) (Or.inl ⟨by rfl, ?_⟩) (by assumption) ?_; rotate_left; (focus (intro wS hSw; (try dsimp only at hSw); go_simp <;> with_reducible rfl)); (try simp only [Act.put, List.getElem_toArray, List.getElem_cons_succ, List.getElem_cons_zero, List.setIfInBounds_toArray, List.set_cons_zero, List.set_cons_succ])
  refine wpAnyH_done (by kernel_rfl) ?_ _
  (try simp only [Act.put, List.getElem_toArray, List.getElem_cons_succ, List.getElem_cons_zero, List.setIfInBounds_toArray, List.set_cons_zero, List.set_cons_succ])
  clear HBD HB HB2 hHeld
  obtain ⟨⟨a0, a1, a2⟩, _, c0, c1, c2, c3⟩ := HB3.out.cells
  go_wp2_with fail
  refine (iIsParty_any _ W H _ X n f _ _ L P HB3.out.sx HB3.out.sc HB3.out.sp).mono ?_
  rintro e w4 ⟨rfl, hg⟩
  rw [← HBB.out]
  have HB4 := Lib.hid (HB3.out.on hg)
  clear hg a0 a1 a2 c0 c1 c2 c3
  obtain ⟨_, _, c0, c1, c2, c3⟩ := HB4.out.cells
  cases b
  · go_wp2
    go_ret
    exact ⟨ret_i64 (by rw [HI.out, if_neg (by simp)]), HB4.out.grown⟩
  · by_cases hk0 : k < 0
    · go_wp2
      go_ret
      exact ⟨ret_i64 (by rw [HI.out, if_neg (by omega)]), HB4.out.grown⟩
    · have hpr := HQK.out (by omega)
      have hw : IntKind.i64.wrap (q * k) = q * k := IntWalk.i64_in _ (by omega)
      have HIY : Hid (needHome W H X base m rn n f L P = q * k) := by show _ = _; rw [HI.out, if_pos ⟨rfl, by omega⟩]
      go_wp2_with fail
      refine (iNeedOf_any _ _ L HB4.out.sc).mono ?_
      rintro e w5 ⟨rfl, hg⟩
      rw [← HQ.out]
      have HB5 := Lib.hid (HB4.out.on hg)
      clear hg
      go_wp2
      go_ret
      exact ⟨ret_i64 HIY.out.symm, HB5.out.grown⟩

set_option maxRecDepth 20000 in
set_option maxHeartbeats 4000000 in
theorem sNeed_any (w : World) (W H base m rn n f : Int) (xv cv pv : Value) (X : List Int) (L : List Mem) (P : List Bool) (hm : (Lit.int .i64 m).wf = true) (hrn : (Lit.int .i64 rn).wf = true) (hx : Sees .i64 w xv X) (hc : SeesG encM w cv L) (hp : SeesG encB w pv P) :
    Calls Try.prog 37 #[.agg #[.int .i64 W, .int .i64 H, xv], .int .i64 base, .agg #[.int .i64 m, .int .i64 rn], .agg #[.int .i64 n, .int .i64 f, cv, pv]] w fun e w' => e = .returned (.int .i64 (needHome W H X base m rn n f L P)) ∧ w.grownBy w' none := by
  obtain ⟨xa, xn, xc, hxv, HXN⟩ := hx.shape
  subst hxv
  obtain ⟨ca, cn, cc, hcv, HCN⟩ := hc.shape
  subst hcv
  obtain ⟨pa, pn, pc, hpv, HPN⟩ := hp.shape
  subst hpv
  have HB := Lib.hid (NB.start (W := W) (H := H) (m := m) (rn := rn) (n := n) (f := f) hx hc hp)
  have HM := Lib.hid hm
  have HN := Lib.hid hrn
  obtain ⟨d, hd⟩ : ∃ d, d = daysOf W H X n base := ⟨_, rfl⟩
  obtain ⟨k, hk⟩ : ∃ k, k = worstOf m rn P d := ⟨_, rfl⟩
  obtain ⟨b, hb⟩ : ∃ b, b = isParty W H X n f L P := ⟨_, rfl⟩
  obtain ⟨q, hq⟩ : ∃ q, q = needOf L := ⟨_, rfl⟩
  have hkt := worst_top m rn d P
  have hkl := worstOf_low m rn d P
  have hkd : d < 0 → worstOf m rn P d = -1 := fun h => worstOf_no (fun h1 => by omega)
  rw [← hk] at hkt hkl hkd
  have HI : Hid (needHome W H X base m rn n f L P = if b = true ∧ 0 ≤ k then q * k else -1) := by show _ = _; unfold needHome; rw [← hd, ← hk, ← hb, ← hq]
  have hqk := fun h0 : 0 ≤ k => need_top (L := L) h0 hkt
  rw [← hq] at hqk
  have HD := Lib.hid hd
  have HK := Lib.hid hk
  have HKD := Lib.hid hkd
  have HBB := Lib.hid hb
  have HQ := Lib.hid hq
  have HQK := Lib.hid hqk
  clear hx hc hp hm hrn hd hk hb hq hqk hkd
  obtain ⟨⟨a0, a1, a2⟩, ⟨b0, b1⟩, c0, c1, c2, c3⟩ := HB.out.cells
  go_enter Try.func37, Try.ntmps37
  go_wp2_with fail
  generalize ((w.alloc (.cells #[.int .i64 W, .int .i64 H, .slice xa xn xc] 50 (0, 0))).alloc (.cells #[.int .i64 m, .int .i64 rn] 64 (0, 0))).alloc (.cells #[.int .i64 n, .int .i64 f, .slice ca cn cc, .slice pa pn pc] 37 (0, 0)) = W0 at *
  generalize w.heap.size = A at *
  refine (WayS.sDays_any _ W H n base _ X HB.out.sx).mono ?_
  rintro e w2 ⟨rfl, hg⟩
  rw [← HD.out]
  have HB2 := Lib.hid (HB.out.on hg)
  clear hg a0 a1 a2 b0 b1 c0 c1 c2 c3 HB
  obtain ⟨⟨a0, a1, a2⟩, ⟨b0, b1⟩, c0, c1, c2, c3⟩ := HB2.out.cells
  go_wp2_with fail
  refine (sWorst_any _ m rn d HM.out HN.out _ P HB2.out.sp).mono ?_
  rintro e w3 ⟨rfl, hg⟩
  rw [← HK.out]
  have HB3 := Lib.hid (HB2.out.on hg)
  clear hg a0 a1 a2 b0 b1 c0 c1 c2 c3 HB2
  obtain ⟨⟨a0, a1, a2⟩, ⟨b0, b1⟩, c0, c1, c2, c3⟩ := HB3.out.cells
  go_wp2_with fail
  refine (sIsParty_any _ W H _ X n f _ _ L P HB3.out.sx HB3.out.sc HB3.out.sp).mono ?_
  rintro e w4 ⟨rfl, hg⟩
  rw [← HBB.out]
  have HB4 := Lib.hid (HB3.out.on hg)
  clear hg a0 a1 a2 b0 b1 c0 c1 c2 c3 HB3
  obtain ⟨⟨a0, a1, a2⟩, ⟨b0, b1⟩, c0, c1, c2, c3⟩ := HB4.out.cells
  cases b
  · go_wp2
    go_ret
    exact ⟨ret_i64 (by rw [HI.out, if_neg (by simp)]), HB4.out.grown⟩
  · by_cases hd0 : d < 0
    · have hkm := HKD.out hd0
      go_wp2
      go_ret
      exact ⟨ret_i64 (by rw [HI.out, if_neg (by omega)]), HB4.out.grown⟩
    · by_cases hk0 : k < 0
      · go_wp2
        go_ret
        exact ⟨ret_i64 (by rw [HI.out, if_neg (by omega)]), HB4.out.grown⟩
      · have hpr := HQK.out (by omega)
        have hw : IntKind.i64.wrap (q * k) = q * k := IntWalk.i64_in _ (by omega)
        have HIY : Hid (needHome W H X base m rn n f L P = q * k) := by show _ = _; rw [HI.out, if_pos ⟨rfl, by omega⟩]
        go_wp2_with fail
        refine (sNeedOf_any _ _ L HB4.out.sc).mono ?_
        rintro e w5 ⟨rfl, hg⟩
        rw [← HQ.out]
        have HB5 := Lib.hid (HB4.out.on hg)
        clear hg
        go_wp2
        go_ret
        exact ⟨ret_i64 HIY.out.symm, HB5.out.grown⟩
end Go.Proofs.Ytfcjbkagofccdaa.Need

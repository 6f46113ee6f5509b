/- Contracts of whether a party must turn, of the program and of its model. -/
import Derived.Test.YtonalkamfgpokaaGreatDayQ
import Derived.Deep.RegionHeld3
namespace Go.Proofs.YtonalkamfgpokaaGreat.Mst
open Go.RowKit Kit Rw Rg Four PartyL Pc Pd Pe Stm Crw Hom HomS Ld Day Lah Wf

noncomputable def nearer (W H : Int) (X : List Int) (base n : Int) (c : Int) : Bool := decide (daysOf W H X c base < daysOf W H X n base)
noncomputable def must (W H : Int) (X : List Int) (base m rn : Int) (D : List (Int × Int)) (n f : Int) (L : List Mem) (P : List Bool) : Bool :=
  !decide (n = base) && (decide (0 ≤ left W H X base m rn D n f L P) && (!(setOut W H X base m rn D n f L P n) && (cho W H X base m rn D n f L P).all (nearer W H X base n)))
section
variable {W H : Int} {X : List Int} {base m rn : Int} {D : List (Int × Int)} {n f : Int} {L : List Mem} {P : List Bool}
theorem must_base (h : n = base) : must W H X base m rn D n f L P = false := by unfold must; rw [decide_eq_true h]; rfl
theorem must_left (h : decide (0 ≤ left W H X base m rn D n f L P) = false) : must W H X base m rn D n f L P = false := by unfold must; rw [h]; simp
theorem must_wait (h : setOut W H X base m rn D n f L P n = true) : must W H X base m rn D n f L P = false := by unfold must; rw [h]; simp
theorem must_rest (h0 : ¬ n = base) (h1 : decide (0 ≤ left W H X base m rn D n f L P) = true) (h2 : setOut W H X base m rn D n f L P n = false) : must W H X base m rn D n f L P = (cho W H X base m rn D n f L P).all (nearer W H X base n) := by unfold must; rw [decide_eq_false h0, h1, h2]; rfl
end
theorem all_bad {C : List Int} {p : Int → Bool} {j : Nat} (h : j < C.length) (k : p (C.getD j 0) = false) : C.all p = false := by
  rw [List.all_eq_false]
  refine ⟨C[j], List.getElem_mem h, ?_⟩
  rw [show C[j] = C.getD j 0 by simp [h], k]; simp
theorem all_ok {C : List Int} {p : Int → Bool} (h : ∀ k, k < C.length → p (C.getD k 0) = true) : C.all p = true := by
  rw [List.all_eq_true]
  intro x hx
  obtain ⟨k, hk, rfl⟩ := List.mem_iff_getElem.1 hx
  have := h k hk
  rwa [show C.getD k 0 = C[k] by simp [hk]] at this

set_option maxRecDepth 20000 in
set_option maxHeartbeats 4000000 in
theorem iMust_any (w : World) (W H base m rn n f : Int) (xv dv cv pv : Value) (X : List Int) (D : List (Int × Int)) (L : List Mem) (P : List Bool) (hm : (Lit.int .i64 m).wf = true) (hrn : (Lit.int .i64 rn).wf = true) (hf : (Lit.int .i64 f).wf = true)
    (hx : Sees .i64 w xv X) (hd : SeesG encP w dv D) (hc : SeesG encM w cv L) (hp : SeesG encB w pv P) (hL : L.length ≤ 1000000000) (hP : P.length ≤ 100000000) :
    Calls Tryz.prog 28 #[.agg #[.int .i64 W, .int .i64 H, xv], .int .i64 base, .agg #[.int .i64 m, .int .i64 rn], dv, .agg #[.int .i64 n, .int .i64 f, cv, pv]] w fun e w' => e = .returned (.bool (must W H X base m rn D n f L P)) ∧ w.grownBy w' none := by
  obtain ⟨xa, xn, xc, rfl, HXN⟩ := hx.shape
  obtain ⟨da, dn, dc, rfl, HDN⟩ := hd.shape
  obtain ⟨ca, cn, cc, rfl, HCN⟩ := hc.shape
  obtain ⟨pa, pn, pc, rfl, HPN⟩ := hp.shape
  have hb0 := H0.start (w := w) (W := W) (H := H) (m := m) (rn := rn) (n := n) (f := f) (xv := .slice xa xn xc) (cv := .slice ca cn cc) (pv := .slice pa pn pc)
  have HB0 := Lib.hid hb0
  have HX9 := Lib.hid hx
  have HD9 := Lib.hid hd
  have HC9 := Lib.hid hc
  have HP9 := Lib.hid hp
  have HCAN := Lib.hid fun w' (hg : w.grownBy w' none) => iCan_any w' W H base m rn n f (.slice xa xn xc) (.slice da dn dc) (.slice ca cn cc) (.slice pa pn pc) X D L P hm hrn (hx.grown hg) (hd.grown hg) (hc.grown hg) (hp.grown hg)
  have HWAI := Lib.hid fun w' (hg : w.grownBy w' none) => iWait_any w' W H base m rn n f (.slice xa xn xc) (.slice da dn dc) (.slice ca cn cc) (.slice pa pn pc) X D L P hm hrn hf (hx.grown hg) (hd.grown hg) (hc.grown hg) (hp.grown hg) hL hP
  have HCHO := Lib.hid fun w' (hg : w.grownBy w' none) => iCho_any w' W H base m rn n f (.slice xa xn xc) (.slice da dn dc) (.slice ca cn cc) (.slice pa pn pc) X D L P hm hrn hf (hx.grown hg) (hd.grown hg) (hc.grown hg) (hp.grown hg) hL hP
  have HDAY := Lib.hid fun w' a (hg : w.grownBy w' none) => WayI.days_any w' W H a base (.slice xa xn xc) X (hx.grown hg)
  obtain ⟨⟨a0, a1, a2⟩, ⟨b0, b1⟩, c0, c1, c2, c3⟩ := HB0.out.cells
  by_cases hbs : n = base
  · have HR : Hid (must W H X base m rn D n f L P = false) := must_base hbs
    subst hbs
    clear hx hd hc hp hm hrn hf hL hP hb0
    go_enter Tryz.func28, Tryz.ntmps28
    go_wp2
    go_ret
    exact ⟨ret_bool HR.out.symm, HB0.out.grown⟩
  · have hbb : (n == base) = false := by simpa using hbs
    cases hl : decide (0 ≤ left W H X base m rn D n f L P)
    · have HR : Hid (must W H X base m rn D n f L P = false) := must_left hl
      rw [hl] at HCAN
      clear hx hd hc hp hm hrn hf hL hP hb0 hl
      go_enter Tryz.func28, Tryz.ntmps28
      go_wp2_with fail
      generalize (((w.alloc (.cells #[.int .i64 W, .int .i64 H, .slice xa xn xc] 37 (0, 0))).alloc (.cells #[.int .i64 m, .int .i64 rn] 38 (0, 0))).alloc (.cells #[.int .i64 n, .int .i64 f, .slice ca cn cc, .slice pa pn pc] 42 (0, 0))) = W0 at *
      refine (HCAN.out _ HB0.out.grown).mono ?_
      rintro e w1 ⟨rfl, hg⟩
      skip
      have HB1 := Lib.hid (HB0.out.on hg)
      clear hg a0 a1 a2 b0 b1 c0 c1 c2 c3
      obtain ⟨⟨a0, a1, a2⟩, ⟨b0, b1⟩, c0, c1, c2, c3⟩ := HB1.out.cells
      go_wp2
      go_ret
      exact ⟨ret_bool HR.out.symm, HB1.out.grown⟩
    · cases hs : setOut W H X base m rn D n f L P n
      rotate_left
      · have HR : Hid (must W H X base m rn D n f L P = false) := must_wait hs
        rw [hl] at HCAN
        rw [hs] at HWAI
        clear hx hd hc hp hm hrn hf hL hP hb0 hl hs
        go_enter Tryz.func28, Tryz.ntmps28
        go_wp2_with fail
        generalize (((w.alloc (.cells #[.int .i64 W, .int .i64 H, .slice xa xn xc] 37 (0, 0))).alloc (.cells #[.int .i64 m, .int .i64 rn] 38 (0, 0))).alloc (.cells #[.int .i64 n, .int .i64 f, .slice ca cn cc, .slice pa pn pc] 42 (0, 0))) = W0 at *
        refine (HCAN.out _ HB0.out.grown).mono ?_
        rintro e w1 ⟨rfl, hg⟩
        skip
        have HB1 := Lib.hid (HB0.out.on hg)
        clear hg a0 a1 a2 b0 b1 c0 c1 c2 c3
        obtain ⟨⟨a0, a1, a2⟩, ⟨b0, b1⟩, c0, c1, c2, c3⟩ := HB1.out.cells
        go_wp2_with fail
        refine (HWAI.out _ HB1.out.grown).mono ?_
        rintro e w2 ⟨rfl, hg⟩
        have HB2 := Lib.hid (HB1.out.on hg)
        clear hg
        go_wp2
        go_ret
        exact ⟨ret_bool HR.out.symm, HB2.out.grown⟩
      · have hmr := must_rest hbs hl hs
        rw [hl] at HCAN
        rw [hs] at HWAI
        obtain ⟨C, hC⟩ : ∃ C, C = cho W H X base m rn D n f L P := ⟨_, rfl⟩
        have hcl := cho_len W H X base m rn D n f L P
        have hnl := nearOf_len W H X n
        rw [← hC] at hmr HCHO hcl
        have HMR := Lib.hid hmr
        obtain ⟨B, hB⟩ : ∃ B, B = daysOf W H X n base := ⟨_, rfl⟩
        have HBQ := Lib.hid hB
        have hCl : C.length ≤ 1000000 := by omega
        have HCL := Lib.hid hCl
        clear hx hd hc hp hm hrn hf hL hP hb0 hl hs hmr hC hcl hnl hB hCl
        go_enter Tryz.func28, Tryz.ntmps28
        go_wp2_with fail
        generalize (((w.alloc (.cells #[.int .i64 W, .int .i64 H, .slice xa xn xc] 37 (0, 0))).alloc (.cells #[.int .i64 m, .int .i64 rn] 38 (0, 0))).alloc (.cells #[.int .i64 n, .int .i64 f, .slice ca cn cc, .slice pa pn pc] 42 (0, 0))) = W0 at *
        refine (HCAN.out _ HB0.out.grown).mono ?_
        rintro e w1 ⟨rfl, hg⟩
        skip
        have HB1 := Lib.hid (HB0.out.on hg)
        clear hg a0 a1 a2 b0 b1 c0 c1 c2 c3
        obtain ⟨⟨a0, a1, a2⟩, ⟨b0, b1⟩, c0, c1, c2, c3⟩ := HB1.out.cells
        go_wp2_with fail
        refine (HWAI.out _ HB1.out.grown).mono ?_
        rintro e w2 ⟨rfl, hg⟩
        have HB2 := Lib.hid (HB1.out.on hg)
        clear hg a0 a1 a2 b0 b1 c0 c1 c2 c3
        obtain ⟨⟨a0, a1, a2⟩, ⟨b0, b1⟩, c0, c1, c2, c3⟩ := HB2.out.cells
        go_wp2_with fail
        refine (HCHO.out _ HB2.out.grown).mono ?_
        rintro e w3 ⟨u, rfl, ho, hg⟩
        have HB3 := Lib.hid (HB2.out.on hg)
        have HS := Lib.hid ho.sees
        obtain ⟨ua, un, uc, hu, HUN⟩ := ho.sees.shape
        subst hu
        have hun : un ≤ 1000000 := by rw [← HUN.out]; exact HCL.out
        clear hg ho a0 a1 a2 b0 b1 c0 c1 c2 c3
        go_wp2
        go_loopw [41] (fun i wr => ∃ j : Nat, j ≤ un ∧ i = .int .i64 j ∧ Hid (∀ k, k < j → nearer W H X base n (C.getD k 0) = true) ∧ Hid (w3.grownBy wr none)) (fun i _ => un - (intOf i).toNat)
        case atStart => exact ⟨0, Nat.zero_le _, rfl, fun _ h => by omega, World.grownBy.refl _ _⟩
        case round =>
          rename_i wr
          obtain ⟨j, hj, rfl, HM, HG⟩ := hrel
          have HBR := Lib.hid (HB3.out.on HG.out)
          by_cases hlt : j < un
          · have hjC : j < C.length := by rw [HUN.out]; exact hlt
            have hjI : (j : Int) < (un : Int) := by omega
            have hj0 : (0 : Int) ≤ (j : Int) := by omega
            obtain ⟨x, hx⟩ : ∃ x, x = C.getD j 0 := ⟨_, rfl⟩
            obtain ⟨b, o, rfl, hcj⟩ := (HS.out.grown HG.out).at_row (j := j) hjC
            have HCJ : Hid (∀ W1, w3.grownBy W1 none → W1.cell? ⟨b, o + j, none⟩ = some (.int .i64 (C.getD j 0))) := fun W1 hg => by
              obtain ⟨b', o', e, hq⟩ := (HS.out.grown hg).at_row (j := j) hjC
              injection e with e; injection e with e1 e2; subst e1 e2
              exact hq
            rw [← hx] at hcj HCJ
            have HX := Lib.hid hx
            obtain ⟨A, hA⟩ : ∃ A, A = daysOf W H X x base := ⟨_, rfl⟩
            have HA := Lib.hid hA
            have HBAD : Hid (¬ A < B → must W H X base m rn D n f L P = false) := fun h => by
              rw [HMR.out]
              refine all_bad hjC ?_
              unfold nearer
              rw [← HX.out, ← HA.out, ← HBQ.out]
              exact decide_eq_false h
            have HNX : Hid (A < B → ∀ k, k < j + 1 → nearer W H X base n (C.getD k 0) = true) := fun h k hk => by
              by_cases e : k = j
              · rw [e]; unfold nearer; rw [← HX.out, ← HA.out, ← HBQ.out]; exact decide_eq_true h
              · exact HM.out k (by omega)
            have HGD := Lib.hid (grown_drew HG.out)
            have HBD := Lib.hid (HBR.out.on (grown_drew (World.grownBy.refl wr none)))
            have HD1 := Lib.hid (HDAY.out _ x HBD.out.grown)
            rw [← HA.out] at HD1
            obtain ⟨⟨a0, a1, a2⟩, ⟨b0, b1⟩, c0, c1, c2, c3⟩ := HBR.out.cells
            clear hx hA hjC
            by_cases hab : A < B
            · have HN2 := Lib.hid (HNX.out hab)
              have hge : decide (B ≤ A) = false := decide_eq_false (by omega)
              go_wp2_with fail
              refine wp_region_held_drew (S := fun w' => (w'.cell? ⟨w.heap.size, 0, none⟩ = some (.int .i64 W) ∧ w'.cell? ⟨w.heap.size, 1, none⟩ = some (.int .i64 H) ∧ w'.cell? ⟨w.heap.size, 2, none⟩ = some (.slice xa xn xc)) ∧ w'.cell? ⟨w.heap.size + 2, 0, none⟩ = some (.int .i64 n)) (by kernel_rfl) ⟨HBD.out.land.three, HBD.out.party.cell 0⟩ (fun hHeld => ?_)
              refine wpAnyH_take (i := 0) (v := ?_) rfl (by kernel_rfl) (by kernel_rfl) (by kernel_rfl) (fun _ _ _ h => h) (Or.inl ⟨by rfl, ?_⟩) (by assumption) ?_; rotate_left; (focus (intro wS hSw; (try dsimp only at hSw); go_simp <;> with_reducible rfl)); (try simp only [Act.put, List.getElem_toArray, List.getElem_cons_succ, List.getElem_cons_zero, List.setIfInBounds_toArray, List.set_cons_zero, List.set_cons_succ])
              refine wpAnyH_take (i := 1) (v := ?_) rfl (by kernel_rfl) (by kernel_rfl) (by kernel_rfl) (fun _ _ _ h => h) (Or.inl ⟨by rfl, ?_⟩) (by assumption) ?_; rotate_left; (focus (intro wS hSw; (try dsimp only at hSw); go_simp <;> with_reducible rfl)); (try simp only [Act.put, List.getElem_toArray, List.getElem_cons_succ, List.getElem_cons_zero, List.setIfInBounds_toArray, List.set_cons_zero, List.set_cons_succ])
              refine wpAnyH_take (i := 2) (v := ?_) rfl (by kernel_rfl) (by kernel_rfl) (by kernel_rfl) (fun _ _ _ h => h) (Or.inl ⟨by rfl, ?_⟩) (by assumption) ?_; rotate_left; (focus (intro wS hSw; (try dsimp only at hSw); go_simp <;> with_reducible rfl)); (try simp only [Act.put, List.getElem_toArray, List.getElem_cons_succ, List.getElem_cons_zero, List.setIfInBounds_toArray, List.set_cons_zero, List.set_cons_succ])
              refine wpAnyH_take (i := 4) (v := ?_) rfl (by kernel_rfl) (by kernel_rfl) (by kernel_rfl) (fun _ _ _ h => h) (Or.inl ⟨by rfl, ?_⟩) (by assumption) ?_; rotate_left; (focus (intro wS hSw; (try dsimp only at hSw); go_simp <;> with_reducible rfl)); (try simp only [Act.put, List.getElem_toArray, List.getElem_cons_succ, List.getElem_cons_zero, List.setIfInBounds_toArray, List.set_cons_zero, List.set_cons_succ])
              refine wpAnyH_take (i := 5) (v := ?_) rfl (by kernel_rfl) (by kernel_rfl) (by kernel_rfl) (fun _ _ _ h => h) (Or.inl ⟨by rfl, ?_⟩) (by assumption) ?_; rotate_left; (focus (intro wS hSw; (try dsimp only at hSw); go_simp <;> with_reducible rfl)); (try simp only [Act.put, List.getElem_toArray, List.getElem_cons_succ, List.getElem_cons_zero, List.setIfInBounds_toArray, List.set_cons_zero, List.set_cons_succ])
              refine wpAnyH_take (i := 6) (v := ?_) rfl (by kernel_rfl) (by kernel_rfl) (by kernel_rfl) (fun _ _ _ h => h) (Or.inl ⟨by rfl, ?_⟩) (by assumption) ?_; rotate_left; (focus (intro wS hSw; (try dsimp only at hSw); go_simp <;> with_reducible rfl)); (try simp only [Act.put, List.getElem_toArray, List.getElem_cons_succ, List.getElem_cons_zero, List.setIfInBounds_toArray, List.set_cons_zero, List.set_cons_succ])
              refine wpAnyH_take (i := 7) (v := ?_) rfl (by kernel_rfl) (by kernel_rfl) (by kernel_rfl) (fun _ _ _ h => h) (Or.inl ⟨by rfl, ?_⟩) (by assumption) ?_; rotate_left; (focus (intro wS hSw; (try dsimp only at hSw); go_simp <;> with_reducible rfl)); (try simp only [Act.put, List.getElem_toArray, List.getElem_cons_succ, List.getElem_cons_zero, List.setIfInBounds_toArray, List.set_cons_zero, List.set_cons_succ])
              refine wpAnyH_ready (rs := [3]) (by kernel_rfl) (by simp) ?_; refine AllReadyH.cons rfl (fun K hK => ?_) AllReadyH.nil; go_simp; (go_at_call 80; refine HD1.out.mono ?_; rintro e w4 ⟨rfl, hg⟩; have HB4 := Lib.hid (HBD.out.on hg); have HGX := Lib.hid (grownN_trans HGD.out hg); clear hg; have HD2 := Lib.hid (HDAY.out _ n HB4.out.grown))
              refine hK.out _ _ ?_ (fun hHeld => ?_)
              · exact ⟨HB4.out.land.three, HB4.out.party.cell 0⟩
              clear hK K
              (try simp only [Act.put, List.getElem_toArray, List.getElem_cons_succ, List.getElem_cons_zero, List.setIfInBounds_toArray, List.set_cons_zero, List.set_cons_succ])
              refine wpAnyH_ready (rs := [8]) (by kernel_rfl) (by simp) ?_; refine AllReadyH.cons rfl (fun K hK => ?_) AllReadyH.nil; go_simp; (go_at_call 80; refine HD2.out.mono ?_; rintro e w5 ⟨rfl, hg⟩; rw [← HBQ.out]; have HB5 := Lib.hid (HB4.out.on hg); have HGX2 := Lib.hid (grownN_trans HGX.out hg); clear hg)
              refine hK.out _ _ ?_ (fun hHeld => ?_)
              · exact ⟨HB5.out.land.three, HB5.out.party.cell 0⟩
              clear hK K
              (try simp only [Act.put, List.getElem_toArray, List.getElem_cons_succ, List.getElem_cons_zero, List.setIfInBounds_toArray, List.set_cons_zero, List.set_cons_succ])
              refine wpAnyH_take (i := 9) (v := ?_) rfl (by kernel_rfl) (by kernel_rfl) (by kernel_rfl) (fun _ _ _ h => h) (Or.inl ⟨by rfl, ?_⟩) (by assumption) ?_; rotate_left; (focus (intro wS hSw; (try dsimp only at hSw); go_simp <;> with_reducible rfl)); (try simp only [Act.put, List.getElem_toArray, List.getElem_cons_succ, List.getElem_cons_zero, List.setIfInBounds_toArray, List.set_cons_zero, List.set_cons_succ])
              refine wpAnyH_done (by kernel_rfl) ?_ _
              (try simp only [Act.put, List.getElem_toArray, List.getElem_cons_succ, List.getElem_cons_zero, List.setIfInBounds_toArray, List.set_cons_zero, List.set_cons_succ])
              go_wp2
              go_roundw
              case rel => exact ⟨j + 1, by omega, by go_num, HN2, HGX2⟩
              case measure => simp [intOf]; omega
            · have HE := Lib.hid (HBAD.out hab)
              have hge : decide (B ≤ A) = true := decide_eq_true (by omega)
              go_wp2_with fail
              refine wp_region_held_drew (S := fun w' => (w'.cell? ⟨w.heap.size, 0, none⟩ = some (.int .i64 W) ∧ w'.cell? ⟨w.heap.size, 1, none⟩ = some (.int .i64 H) ∧ w'.cell? ⟨w.heap.size, 2, none⟩ = some (.slice xa xn xc)) ∧ w'.cell? ⟨w.heap.size + 2, 0, none⟩ = some (.int .i64 n)) (by kernel_rfl) ⟨HBD.out.land.three, HBD.out.party.cell 0⟩ (fun hHeld => ?_)
              refine wpAnyH_take (i := 0) (v := ?_) rfl (by kernel_rfl) (by kernel_rfl) (by kernel_rfl) (fun _ _ _ h => h) (Or.inl ⟨by rfl, ?_⟩) (by assumption) ?_; rotate_left; (focus (intro wS hSw; (try dsimp only at hSw); go_simp <;> with_reducible rfl)); (try simp only [Act.put, List.getElem_toArray, List.getElem_cons_succ, List.getElem_cons_zero, List.setIfInBounds_toArray, List.set_cons_zero, List.set_cons_succ])
              refine wpAnyH_take (i := 1) (v := ?_) rfl (by kernel_rfl) (by kernel_rfl) (by kernel_rfl) (fun _ _ _ h => h) (Or.inl ⟨by rfl, ?_⟩) (by assumption) ?_; rotate_left; (focus (intro wS hSw; (try dsimp only at hSw); go_simp <;> with_reducible rfl)); (try simp only [Act.put, List.getElem_toArray, List.getElem_cons_succ, List.getElem_cons_zero, List.setIfInBounds_toArray, List.set_cons_zero, List.set_cons_succ])
              refine wpAnyH_take (i := 2) (v := ?_) rfl (by kernel_rfl) (by kernel_rfl) (by kernel_rfl) (fun _ _ _ h => h) (Or.inl ⟨by rfl, ?_⟩) (by assumption) ?_; rotate_left; (focus (intro wS hSw; (try dsimp only at hSw); go_simp <;> with_reducible rfl)); (try simp only [Act.put, List.getElem_toArray, List.getElem_cons_succ, List.getElem_cons_zero, List.setIfInBounds_toArray, List.set_cons_zero, List.set_cons_succ])
              refine wpAnyH_take (i := 4) (v := ?_) rfl (by kernel_rfl) (by kernel_rfl) (by kernel_rfl) (fun _ _ _ h => h) (Or.inl ⟨by rfl, ?_⟩) (by assumption) ?_; rotate_left; (focus (intro wS hSw; (try dsimp only at hSw); go_simp <;> with_reducible rfl)); (try simp only [Act.put, List.getElem_toArray, List.getElem_cons_succ, List.getElem_cons_zero, List.setIfInBounds_toArray, List.set_cons_zero, List.set_cons_succ])
              refine wpAnyH_take (i := 5) (v := ?_) rfl (by kernel_rfl) (by kernel_rfl) (by kernel_rfl) (fun _ _ _ h => h) (Or.inl ⟨by rfl, ?_⟩) (by assumption) ?_; rotate_left; (focus (intro wS hSw; (try dsimp only at hSw); go_simp <;> with_reducible rfl)); (try simp only [Act.put, List.getElem_toArray, List.getElem_cons_succ, List.getElem_cons_zero, List.setIfInBounds_toArray, List.set_cons_zero, List.set_cons_succ])
              refine wpAnyH_take (i := 6) (v := ?_) rfl (by kernel_rfl) (by kernel_rfl) (by kernel_rfl) (fun _ _ _ h => h) (Or.inl ⟨by rfl, ?_⟩) (by assumption) ?_; rotate_left; (focus (intro wS hSw; (try dsimp only at hSw); go_simp <;> with_reducible rfl)); (try simp only [Act.put, List.getElem_toArray, List.getElem_cons_succ, List.getElem_cons_zero, List.setIfInBounds_toArray, List.set_cons_zero, List.set_cons_succ])
              refine wpAnyH_take (i := 7) (v := ?_) rfl (by kernel_rfl) (by kernel_rfl) (by kernel_rfl) (fun _ _ _ h => h) (Or.inl ⟨by rfl, ?_⟩) (by assumption) ?_; rotate_left; (focus (intro wS hSw; (try dsimp only at hSw); go_simp <;> with_reducible rfl)); (try simp only [Act.put, List.getElem_toArray, List.getElem_cons_succ, List.getElem_cons_zero, List.setIfInBounds_toArray, List.set_cons_zero, List.set_cons_succ])
              refine wpAnyH_ready (rs := [3]) (by kernel_rfl) (by simp) ?_; refine AllReadyH.cons rfl (fun K hK => ?_) AllReadyH.nil; go_simp; (go_at_call 80; refine HD1.out.mono ?_; rintro e w4 ⟨rfl, hg⟩; have HB4 := Lib.hid (HBD.out.on hg); have HGX := Lib.hid (grownN_trans HGD.out hg); clear hg; have HD2 := Lib.hid (HDAY.out _ n HB4.out.grown))
              refine hK.out _ _ ?_ (fun hHeld => ?_)
              · exact ⟨HB4.out.land.three, HB4.out.party.cell 0⟩
              clear hK K
              (try simp only [Act.put, List.getElem_toArray, List.getElem_cons_succ, List.getElem_cons_zero, List.setIfInBounds_toArray, List.set_cons_zero, List.set_cons_succ])
              refine wpAnyH_ready (rs := [8]) (by kernel_rfl) (by simp) ?_; refine AllReadyH.cons rfl (fun K hK => ?_) AllReadyH.nil; go_simp; (go_at_call 80; refine HD2.out.mono ?_; rintro e w5 ⟨rfl, hg⟩; rw [← HBQ.out]; have HB5 := Lib.hid (HB4.out.on hg); have HGX2 := Lib.hid (grownN_trans HGX.out hg); clear hg)
              refine hK.out _ _ ?_ (fun hHeld => ?_)
              · exact ⟨HB5.out.land.three, HB5.out.party.cell 0⟩
              clear hK K
              (try simp only [Act.put, List.getElem_toArray, List.getElem_cons_succ, List.getElem_cons_zero, List.setIfInBounds_toArray, List.set_cons_zero, List.set_cons_succ])
              refine wpAnyH_take (i := 9) (v := ?_) rfl (by kernel_rfl) (by kernel_rfl) (by kernel_rfl) (fun _ _ _ h => h) (Or.inl ⟨by rfl, ?_⟩) (by assumption) ?_; rotate_left; (focus (intro wS hSw; (try dsimp only at hSw); go_simp <;> with_reducible rfl)); (try simp only [Act.put, List.getElem_toArray, List.getElem_cons_succ, List.getElem_cons_zero, List.setIfInBounds_toArray, List.set_cons_zero, List.set_cons_succ])
              refine wpAnyH_done (by kernel_rfl) ?_ _
              (try simp only [Act.put, List.getElem_toArray, List.getElem_cons_succ, List.getElem_cons_zero, List.setIfInBounds_toArray, List.set_cons_zero, List.set_cons_succ])
              go_wp2
              go_ret
              exact ⟨ret_bool HE.out.symm, HB5.out.grown⟩
          · have hju : un = j := by omega
            have HE : Hid (must W H X base m rn D n f L P = true) := by
              show _ = _
              rw [HMR.out]
              exact all_ok (fun k hk => HM.out k (by rw [← hju, ← HUN.out]; exact hk))
            subst hju
            go_wp2
            go_ret
            exact ⟨ret_bool HE.out.symm, HBR.out.grown⟩

set_option maxRecDepth 20000 in
set_option maxHeartbeats 4000000 in
theorem sMust_any (w : World) (W H base m rn n f : Int) (xv dv cv pv : Value) (X : List Int) (D : List (Int × Int)) (L : List Mem) (P : List Bool) (hm : (Lit.int .i64 m).wf = true) (hrn : (Lit.int .i64 rn).wf = true) (hf : (Lit.int .i64 f).wf = true)
    (hx : Sees .i64 w xv X) (hd : SeesG encP w dv D) (hc : SeesG encM w cv L) (hp : SeesG encB w pv P) (hL : L.length ≤ 1000000000) (hP : P.length ≤ 100000000) :
    Calls Tryz.prog 23 #[.agg #[.int .i64 W, .int .i64 H, xv], .int .i64 base, .agg #[.int .i64 m, .int .i64 rn], dv, .agg #[.int .i64 n, .int .i64 f, cv, pv]] w fun e w' => e = .returned (.bool (must W H X base m rn D n f L P)) ∧ w.grownBy w' none := by
  obtain ⟨xa, xn, xc, rfl, HXN⟩ := hx.shape
  obtain ⟨da, dn, dc, rfl, HDN⟩ := hd.shape
  obtain ⟨ca, cn, cc, rfl, HCN⟩ := hc.shape
  obtain ⟨pa, pn, pc, rfl, HPN⟩ := hp.shape
  have hb0 := H0.start (w := w) (W := W) (H := H) (m := m) (rn := rn) (n := n) (f := f) (xv := .slice xa xn xc) (cv := .slice ca cn cc) (pv := .slice pa pn pc)
  have HB0 := Lib.hid hb0
  have HX9 := Lib.hid hx
  have HD9 := Lib.hid hd
  have HC9 := Lib.hid hc
  have HP9 := Lib.hid hp
  have HCAN := Lib.hid fun w' (hg : w.grownBy w' none) => sCan_any w' W H base m rn n f (.slice xa xn xc) (.slice da dn dc) (.slice ca cn cc) (.slice pa pn pc) X D L P hm hrn hf (hx.grown hg) (hd.grown hg) (hc.grown hg) (hp.grown hg)
  have HWAI := Lib.hid fun w' (hg : w.grownBy w' none) => sWait_any w' W H base m rn n f (.slice xa xn xc) (.slice da dn dc) (.slice ca cn cc) (.slice pa pn pc) X D L P hm hrn hf (hx.grown hg) (hd.grown hg) (hc.grown hg) (hp.grown hg) hL hP
  have HCHO := Lib.hid fun w' (hg : w.grownBy w' none) => sCho_any w' W H base m rn n f (.slice xa xn xc) (.slice da dn dc) (.slice ca cn cc) (.slice pa pn pc) X D L P hm hrn hf (hx.grown hg) (hd.grown hg) (hc.grown hg) (hp.grown hg) hL hP
  have HDAY := Lib.hid fun w' a (hg : w.grownBy w' none) => WayS.sDays_any w' W H a base (.slice xa xn xc) X (hx.grown hg)
  obtain ⟨⟨a0, a1, a2⟩, ⟨b0, b1⟩, c0, c1, c2, c3⟩ := HB0.out.cells
  by_cases hbs : n = base
  · have HR : Hid (must W H X base m rn D n f L P = false) := must_base hbs
    subst hbs
    cases hl : decide (0 ≤ left W H X n m rn D n f L P)
    · rw [hl] at HCAN
      clear hx hd hc hp hm hrn hf hL hP hb0 hl
      go_enter Tryz.func23, Tryz.ntmps23
      go_wp2_with fail
      generalize (((w.alloc (.cells #[.int .i64 W, .int .i64 H, .slice xa xn xc] 37 (0, 0))).alloc (.cells #[.int .i64 m, .int .i64 rn] 38 (0, 0))).alloc (.cells #[.int .i64 n, .int .i64 f, .slice ca cn cc, .slice pa pn pc] 42 (0, 0))) = W0 at *
      refine (HCAN.out _ HB0.out.grown).mono ?_
      rintro e w1 ⟨rfl, hg⟩
      skip
      have HB1 := Lib.hid (HB0.out.on hg)
      clear hg a0 a1 a2 b0 b1 c0 c1 c2 c3
      obtain ⟨⟨a0, a1, a2⟩, ⟨b0, b1⟩, c0, c1, c2, c3⟩ := HB1.out.cells
      go_wp2
      go_ret
      exact ⟨ret_bool HR.out.symm, HB1.out.grown⟩
    · rw [hl] at HCAN
      clear hx hd hc hp hm hrn hf hL hP hb0 hl
      go_enter Tryz.func23, Tryz.ntmps23
      go_wp2_with fail
      generalize (((w.alloc (.cells #[.int .i64 W, .int .i64 H, .slice xa xn xc] 37 (0, 0))).alloc (.cells #[.int .i64 m, .int .i64 rn] 38 (0, 0))).alloc (.cells #[.int .i64 n, .int .i64 f, .slice ca cn cc, .slice pa pn pc] 42 (0, 0))) = W0 at *
      refine (HCAN.out _ HB0.out.grown).mono ?_
      rintro e w1 ⟨rfl, hg⟩
      skip
      have HB1 := Lib.hid (HB0.out.on hg)
      clear hg a0 a1 a2 b0 b1 c0 c1 c2 c3
      obtain ⟨⟨a0, a1, a2⟩, ⟨b0, b1⟩, c0, c1, c2, c3⟩ := HB1.out.cells
      go_wp2
      go_ret
      exact ⟨ret_bool HR.out.symm, HB1.out.grown⟩
  · have hbb : (n == base) = false := by simpa using hbs
    cases hl : decide (0 ≤ left W H X base m rn D n f L P)
    · have HR : Hid (must W H X base m rn D n f L P = false) := must_left hl
      rw [hl] at HCAN
      clear hx hd hc hp hm hrn hf hL hP hb0 hl
      go_enter Tryz.func23, Tryz.ntmps23
      go_wp2_with fail
      generalize (((w.alloc (.cells #[.int .i64 W, .int .i64 H, .slice xa xn xc] 37 (0, 0))).alloc (.cells #[.int .i64 m, .int .i64 rn] 38 (0, 0))).alloc (.cells #[.int .i64 n, .int .i64 f, .slice ca cn cc, .slice pa pn pc] 42 (0, 0))) = W0 at *
      refine (HCAN.out _ HB0.out.grown).mono ?_
      rintro e w1 ⟨rfl, hg⟩
      skip
      have HB1 := Lib.hid (HB0.out.on hg)
      clear hg a0 a1 a2 b0 b1 c0 c1 c2 c3
      obtain ⟨⟨a0, a1, a2⟩, ⟨b0, b1⟩, c0, c1, c2, c3⟩ := HB1.out.cells
      go_wp2
      go_ret
      exact ⟨ret_bool HR.out.symm, HB1.out.grown⟩
    · cases hs : setOut W H X base m rn D n f L P n
      rotate_left
      · have HR : Hid (must W H X base m rn D n f L P = false) := must_wait hs
        rw [hl] at HCAN
        rw [hs] at HWAI
        clear hx hd hc hp hm hrn hf hL hP hb0 hl hs
        go_enter Tryz.func23, Tryz.ntmps23
        go_wp2_with fail
        generalize (((w.alloc (.cells #[.int .i64 W, .int .i64 H, .slice xa xn xc] 37 (0, 0))).alloc (.cells #[.int .i64 m, .int .i64 rn] 38 (0, 0))).alloc (.cells #[.int .i64 n, .int .i64 f, .slice ca cn cc, .slice pa pn pc] 42 (0, 0))) = W0 at *
        refine (HCAN.out _ HB0.out.grown).mono ?_
        rintro e w1 ⟨rfl, hg⟩
        skip
        have HB1 := Lib.hid (HB0.out.on hg)
        clear hg a0 a1 a2 b0 b1 c0 c1 c2 c3
        obtain ⟨⟨a0, a1, a2⟩, ⟨b0, b1⟩, c0, c1, c2, c3⟩ := HB1.out.cells
        go_wp2_with fail
        refine (HWAI.out _ HB1.out.grown).mono ?_
        rintro e w2 ⟨rfl, hg⟩
        have HB2 := Lib.hid (HB1.out.on hg)
        clear hg
        go_wp2
        go_ret
        exact ⟨ret_bool HR.out.symm, HB2.out.grown⟩
      · have hmr := must_rest hbs hl hs
        rw [hl] at HCAN
        rw [hs] at HWAI
        obtain ⟨C, hC⟩ : ∃ C, C = cho W H X base m rn D n f L P := ⟨_, rfl⟩
        have hcl := cho_len W H X base m rn D n f L P
        have hnl := nearOf_len W H X n
        rw [← hC] at hmr HCHO hcl
        have HMR := Lib.hid hmr
        obtain ⟨B, hB⟩ : ∃ B, B = daysOf W H X n base := ⟨_, rfl⟩
        have HBQ := Lib.hid hB
        have hCl : C.length ≤ 1000000 := by omega
        have HCL := Lib.hid hCl
        clear hx hd hc hp hm hrn hf hL hP hb0 hl hs hmr hC hcl hnl hB hCl
        go_enter Tryz.func23, Tryz.ntmps23
        go_wp2_with fail
        generalize (((w.alloc (.cells #[.int .i64 W, .int .i64 H, .slice xa xn xc] 37 (0, 0))).alloc (.cells #[.int .i64 m, .int .i64 rn] 38 (0, 0))).alloc (.cells #[.int .i64 n, .int .i64 f, .slice ca cn cc, .slice pa pn pc] 42 (0, 0))) = W0 at *
        refine (HCAN.out _ HB0.out.grown).mono ?_
        rintro e w1 ⟨rfl, hg⟩
        skip
        have HB1 := Lib.hid (HB0.out.on hg)
        clear hg a0 a1 a2 b0 b1 c0 c1 c2 c3
        obtain ⟨⟨a0, a1, a2⟩, ⟨b0, b1⟩, c0, c1, c2, c3⟩ := HB1.out.cells
        go_wp2_with fail
        refine (HWAI.out _ HB1.out.grown).mono ?_
        rintro e w2 ⟨rfl, hg⟩
        have HB2 := Lib.hid (HB1.out.on hg)
        clear hg a0 a1 a2 b0 b1 c0 c1 c2 c3
        obtain ⟨⟨a0, a1, a2⟩, ⟨b0, b1⟩, c0, c1, c2, c3⟩ := HB2.out.cells
        go_wp2_with fail
        refine (HCHO.out _ HB2.out.grown).mono ?_
        rintro e w3 ⟨u, rfl, ho, hg⟩
        have HB3 := Lib.hid (HB2.out.on hg)
        have HS := Lib.hid ho.sees
        obtain ⟨ua, un, uc, hu, HUN⟩ := ho.sees.shape
        subst hu
        have hun : un ≤ 1000000 := by rw [← HUN.out]; exact HCL.out
        clear hg ho a0 a1 a2 b0 b1 c0 c1 c2 c3
        go_wp2
        go_loopw [12] (fun i wr => ∃ j : Nat, j ≤ un ∧ i = .int .i64 j ∧ Hid (∀ k, k < j → nearer W H X base n (C.getD k 0) = true) ∧ Hid (w3.grownBy wr none)) (fun i _ => un - (intOf i).toNat)
        case atStart => exact ⟨0, Nat.zero_le _, rfl, fun _ h => by omega, World.grownBy.refl _ _⟩
        case round =>
          rename_i wr
          obtain ⟨j, hj, rfl, HM, HG⟩ := hrel
          have HBR := Lib.hid (HB3.out.on HG.out)
          by_cases hlt : j < un
          · have hjC : j < C.length := by rw [HUN.out]; exact hlt
            have hjI : (j : Int) < (un : Int) := by omega
            have hj0 : (0 : Int) ≤ (j : Int) := by omega
            obtain ⟨x, hx⟩ : ∃ x, x = C.getD j 0 := ⟨_, rfl⟩
            obtain ⟨b, o, rfl, hcj⟩ := (HS.out.grown HG.out).at_row (j := j) hjC
            have HCJ : Hid (∀ W1, w3.grownBy W1 none → W1.cell? ⟨b, o + j, none⟩ = some (.int .i64 (C.getD j 0))) := fun W1 hg => by
              obtain ⟨b', o', e, hq⟩ := (HS.out.grown hg).at_row (j := j) hjC
              injection e with e; injection e with e1 e2; subst e1 e2
              exact hq
            rw [← hx] at hcj HCJ
            have HX := Lib.hid hx
            obtain ⟨A, hA⟩ : ∃ A, A = daysOf W H X x base := ⟨_, rfl⟩
            have HA := Lib.hid hA
            have HBAD : Hid (¬ A < B → must W H X base m rn D n f L P = false) := fun h => by
              rw [HMR.out]
              refine all_bad hjC ?_
              unfold nearer
              rw [← HX.out, ← HA.out, ← HBQ.out]
              exact decide_eq_false h
            have HNX : Hid (A < B → ∀ k, k < j + 1 → nearer W H X base n (C.getD k 0) = true) := fun h k hk => by
              by_cases e : k = j
              · rw [e]; unfold nearer; rw [← HX.out, ← HA.out, ← HBQ.out]; exact decide_eq_true h
              · exact HM.out k (by omega)
            have HGD := Lib.hid (grown_drew HG.out)
            have HBD := Lib.hid (HBR.out.on (grown_drew (World.grownBy.refl wr none)))
            have HD1 := Lib.hid (HDAY.out _ x HBD.out.grown)
            rw [← HA.out] at HD1
            obtain ⟨⟨a0, a1, a2⟩, ⟨b0, b1⟩, c0, c1, c2, c3⟩ := HBR.out.cells
            clear hx hA hjC
            by_cases hab : A < B
            · have HN2 := Lib.hid (HNX.out hab)
              have hge : decide (B ≤ A) = false := decide_eq_false (by omega)
              go_wp2_with fail
              refine wp_region_held_drew (S := fun w' => (w'.cell? ⟨w.heap.size, 0, none⟩ = some (.int .i64 W) ∧ w'.cell? ⟨w.heap.size, 1, none⟩ = some (.int .i64 H) ∧ w'.cell? ⟨w.heap.size, 2, none⟩ = some (.slice xa xn xc)) ∧ w'.cell? ⟨w.heap.size + 2, 0, none⟩ = some (.int .i64 n) ∧ w'.cell? ⟨b, o + j, none⟩ = some (.int .i64 x)) (by kernel_rfl) ⟨HBD.out.land.three, HBD.out.party.cell 0, HCJ.out _ HGD.out⟩ (fun hHeld => ?_)
              refine wpAnyH_take (i := 0) (v := ?_) rfl (by kernel_rfl) (by kernel_rfl) (by kernel_rfl) (fun _ _ _ h => h) (Or.inl ⟨by rfl, ?_⟩) (by assumption) ?_; rotate_left; (focus (intro wS hSw; (try dsimp only at hSw); go_simp <;> with_reducible rfl)); (try simp only [Act.put, List.getElem_toArray, List.getElem_cons_succ, List.getElem_cons_zero, List.setIfInBounds_toArray, List.set_cons_zero, List.set_cons_succ])
              refine wpAnyH_take (i := 1) (v := ?_) rfl (by kernel_rfl) (by kernel_rfl) (by kernel_rfl) (fun _ _ _ h => h) (Or.inl ⟨by rfl, ?_⟩) (by assumption) ?_; rotate_left; (focus (intro wS hSw; (try dsimp only at hSw); go_simp <;> with_reducible rfl)); (try simp only [Act.put, List.getElem_toArray, List.getElem_cons_succ, List.getElem_cons_zero, List.setIfInBounds_toArray, List.set_cons_zero, List.set_cons_succ])
              refine wpAnyH_take (i := 2) (v := ?_) rfl (by kernel_rfl) (by kernel_rfl) (by kernel_rfl) (fun _ _ _ h => h) (Or.inl ⟨by rfl, ?_⟩) (by assumption) ?_; rotate_left; (focus (intro wS hSw; (try dsimp only at hSw); go_simp <;> with_reducible rfl)); (try simp only [Act.put, List.getElem_toArray, List.getElem_cons_succ, List.getElem_cons_zero, List.setIfInBounds_toArray, List.set_cons_zero, List.set_cons_succ])
              refine wpAnyH_take (i := 3) (v := ?_) rfl (by kernel_rfl) (by kernel_rfl) (by kernel_rfl) (fun _ _ _ h => h) (Or.inl ⟨by rfl, ?_⟩) (by assumption) ?_; rotate_left; (focus (intro wS hSw; (try dsimp only at hSw); go_simp <;> with_reducible rfl)); (try simp only [Act.put, List.getElem_toArray, List.getElem_cons_succ, List.getElem_cons_zero, List.setIfInBounds_toArray, List.set_cons_zero, List.set_cons_succ])
              refine wpAnyH_take (i := 4) (v := ?_) rfl (by kernel_rfl) (by kernel_rfl) (by kernel_rfl) (fun _ _ _ h => h) (Or.inl ⟨by rfl, ?_⟩) (by assumption) ?_; rotate_left; (focus (intro wS hSw; (try dsimp only at hSw); go_simp <;> with_reducible rfl)); (try simp only [Act.put, List.getElem_toArray, List.getElem_cons_succ, List.getElem_cons_zero, List.setIfInBounds_toArray, List.set_cons_zero, List.set_cons_succ])
              refine wpAnyH_take (i := 5) (v := ?_) rfl (by kernel_rfl) (by kernel_rfl) (by kernel_rfl) (fun _ _ _ h => h) (Or.inl ⟨by rfl, ?_⟩) (by assumption) ?_; rotate_left; (focus (intro wS hSw; (try dsimp only at hSw); go_simp <;> with_reducible rfl)); (try simp only [Act.put, List.getElem_toArray, List.getElem_cons_succ, List.getElem_cons_zero, List.setIfInBounds_toArray, List.set_cons_zero, List.set_cons_succ])
              refine wpAnyH_take (i := 7) (v := ?_) rfl (by kernel_rfl) (by kernel_rfl) (by kernel_rfl) (fun _ _ _ h => h) (Or.inl ⟨by rfl, ?_⟩) (by assumption) ?_; rotate_left; (focus (intro wS hSw; (try dsimp only at hSw); go_simp <;> with_reducible rfl)); (try simp only [Act.put, List.getElem_toArray, List.getElem_cons_succ, List.getElem_cons_zero, List.setIfInBounds_toArray, List.set_cons_zero, List.set_cons_succ])
              refine wpAnyH_take (i := 8) (v := ?_) rfl (by kernel_rfl) (by kernel_rfl) (by kernel_rfl) (fun _ _ _ h => h) (Or.inl ⟨by rfl, ?_⟩) (by assumption) ?_; rotate_left; (focus (intro wS hSw; (try dsimp only at hSw); go_simp <;> with_reducible rfl)); (try simp only [Act.put, List.getElem_toArray, List.getElem_cons_succ, List.getElem_cons_zero, List.setIfInBounds_toArray, List.set_cons_zero, List.set_cons_succ])
              refine wpAnyH_take (i := 9) (v := ?_) rfl (by kernel_rfl) (by kernel_rfl) (by kernel_rfl) (fun _ _ _ h => h) (Or.inl ⟨by rfl, ?_⟩) (by assumption) ?_; rotate_left; (focus (intro wS hSw; (try dsimp only at hSw); go_simp <;> with_reducible rfl)); (try simp only [Act.put, List.getElem_toArray, List.getElem_cons_succ, List.getElem_cons_zero, List.setIfInBounds_toArray, List.set_cons_zero, List.set_cons_succ])
              refine wpAnyH_take (i := 10) (v := ?_) rfl (by kernel_rfl) (by kernel_rfl) (by kernel_rfl) (fun _ _ _ h => h) (Or.inl ⟨by rfl, ?_⟩) (by assumption) ?_; rotate_left; (focus (intro wS hSw; (try dsimp only at hSw); go_simp <;> with_reducible rfl)); (try simp only [Act.put, List.getElem_toArray, List.getElem_cons_succ, List.getElem_cons_zero, List.setIfInBounds_toArray, List.set_cons_zero, List.set_cons_succ])
              refine wpAnyH_ready (rs := [6]) (by kernel_rfl) (by simp) ?_; refine AllReadyH.cons rfl (fun K hK => ?_) AllReadyH.nil; go_simp; (go_at_call 75; refine HD1.out.mono ?_; rintro e w4 ⟨rfl, hg⟩; have HB4 := Lib.hid (HBD.out.on hg); have HGX := Lib.hid (grownN_trans HGD.out hg); clear hg; have HD2 := Lib.hid (HDAY.out _ n HB4.out.grown))
              refine hK.out _ _ ?_ (fun hHeld => ?_)
              · exact ⟨HB4.out.land.three, HB4.out.party.cell 0, HCJ.out _ HGX.out⟩
              clear hK K
              (try simp only [Act.put, List.getElem_toArray, List.getElem_cons_succ, List.getElem_cons_zero, List.setIfInBounds_toArray, List.set_cons_zero, List.set_cons_succ])
              refine wpAnyH_ready (rs := [11]) (by kernel_rfl) (by simp) ?_; refine AllReadyH.cons rfl (fun K hK => ?_) AllReadyH.nil; go_simp; (go_at_call 75; refine HD2.out.mono ?_; rintro e w5 ⟨rfl, hg⟩; rw [← HBQ.out]; have HB5 := Lib.hid (HB4.out.on hg); have HGX2 := Lib.hid (grownN_trans HGX.out hg); clear hg)
              refine hK.out _ _ ?_ (fun hHeld => ?_)
              · exact ⟨HB5.out.land.three, HB5.out.party.cell 0, HCJ.out _ HGX2.out⟩
              clear hK K
              (try simp only [Act.put, List.getElem_toArray, List.getElem_cons_succ, List.getElem_cons_zero, List.setIfInBounds_toArray, List.set_cons_zero, List.set_cons_succ])
              refine wpAnyH_take (i := 12) (v := ?_) rfl (by kernel_rfl) (by kernel_rfl) (by kernel_rfl) (fun _ _ _ h => h) (Or.inl ⟨by rfl, ?_⟩) (by assumption) ?_; rotate_left; (focus (intro wS hSw; (try dsimp only at hSw); go_simp <;> with_reducible rfl)); (try simp only [Act.put, List.getElem_toArray, List.getElem_cons_succ, List.getElem_cons_zero, List.setIfInBounds_toArray, List.set_cons_zero, List.set_cons_succ])
              refine wpAnyH_done (by kernel_rfl) ?_ _
              (try simp only [Act.put, List.getElem_toArray, List.getElem_cons_succ, List.getElem_cons_zero, List.setIfInBounds_toArray, List.set_cons_zero, List.set_cons_succ])
              go_wp2
              go_roundw
              case rel => exact ⟨j + 1, by omega, by go_num, HN2, HGX2⟩
              case measure => simp [intOf]; omega
            · have HE := Lib.hid (HBAD.out hab)
              have hge : decide (B ≤ A) = true := decide_eq_true (by omega)
              go_wp2_with fail
              refine wp_region_held_drew (S := fun w' => (w'.cell? ⟨w.heap.size, 0, none⟩ = some (.int .i64 W) ∧ w'.cell? ⟨w.heap.size, 1, none⟩ = some (.int .i64 H) ∧ w'.cell? ⟨w.heap.size, 2, none⟩ = some (.slice xa xn xc)) ∧ w'.cell? ⟨w.heap.size + 2, 0, none⟩ = some (.int .i64 n) ∧ w'.cell? ⟨b, o + j, none⟩ = some (.int .i64 x)) (by kernel_rfl) ⟨HBD.out.land.three, HBD.out.party.cell 0, HCJ.out _ HGD.out⟩ (fun hHeld => ?_)
              refine wpAnyH_take (i := 0) (v := ?_) rfl (by kernel_rfl) (by kernel_rfl) (by kernel_rfl) (fun _ _ _ h => h) (Or.inl ⟨by rfl, ?_⟩) (by assumption) ?_; rotate_left; (focus (intro wS hSw; (try dsimp only at hSw); go_simp <;> with_reducible rfl)); (try simp only [Act.put, List.getElem_toArray, List.getElem_cons_succ, List.getElem_cons_zero, List.setIfInBounds_toArray, List.set_cons_zero, List.set_cons_succ])
              refine wpAnyH_take (i := 1) (v := ?_) rfl (by kernel_rfl) (by kernel_rfl) (by kernel_rfl) (fun _ _ _ h => h) (Or.inl ⟨by rfl, ?_⟩) (by assumption) ?_; rotate_left; (focus (intro wS hSw; (try dsimp only at hSw); go_simp <;> with_reducible rfl)); (try simp only [Act.put, List.getElem_toArray, List.getElem_cons_succ, List.getElem_cons_zero, List.setIfInBounds_toArray, List.set_cons_zero, List.set_cons_succ])
              refine wpAnyH_take (i := 2) (v := ?_) rfl (by kernel_rfl) (by kernel_rfl) (by kernel_rfl) (fun _ _ _ h => h) (Or.inl ⟨by rfl, ?_⟩) (by assumption) ?_; rotate_left; (focus (intro wS hSw; (try dsimp only at hSw); go_simp <;> with_reducible rfl)); (try simp only [Act.put, List.getElem_toArray, List.getElem_cons_succ, List.getElem_cons_zero, List.setIfInBounds_toArray, List.set_cons_zero, List.set_cons_succ])
              refine wpAnyH_take (i := 3) (v := ?_) rfl (by kernel_rfl) (by kernel_rfl) (by kernel_rfl) (fun _ _ _ h => h) (Or.inl ⟨by rfl, ?_⟩) (by assumption) ?_; rotate_left; (focus (intro wS hSw; (try dsimp only at hSw); go_simp <;> with_reducible rfl)); (try simp only [Act.put, List.getElem_toArray, List.getElem_cons_succ, List.getElem_cons_zero, List.setIfInBounds_toArray, List.set_cons_zero, List.set_cons_succ])
              refine wpAnyH_take (i := 4) (v := ?_) rfl (by kernel_rfl) (by kernel_rfl) (by kernel_rfl) (fun _ _ _ h => h) (Or.inl ⟨by rfl, ?_⟩) (by assumption) ?_; rotate_left; (focus (intro wS hSw; (try dsimp only at hSw); go_simp <;> with_reducible rfl)); (try simp only [Act.put, List.getElem_toArray, List.getElem_cons_succ, List.getElem_cons_zero, List.setIfInBounds_toArray, List.set_cons_zero, List.set_cons_succ])
              refine wpAnyH_take (i := 5) (v := ?_) rfl (by kernel_rfl) (by kernel_rfl) (by kernel_rfl) (fun _ _ _ h => h) (Or.inl ⟨by rfl, ?_⟩) (by assumption) ?_; rotate_left; (focus (intro wS hSw; (try dsimp only at hSw); go_simp <;> with_reducible rfl)); (try simp only [Act.put, List.getElem_toArray, List.getElem_cons_succ, List.getElem_cons_zero, List.setIfInBounds_toArray, List.set_cons_zero, List.set_cons_succ])
              refine wpAnyH_take (i := 7) (v := ?_) rfl (by kernel_rfl) (by kernel_rfl) (by kernel_rfl) (fun _ _ _ h => h) (Or.inl ⟨by rfl, ?_⟩) (by assumption) ?_; rotate_left; (focus (intro wS hSw; (try dsimp only at hSw); go_simp <;> with_reducible rfl)); (try simp only [Act.put, List.getElem_toArray, List.getElem_cons_succ, List.getElem_cons_zero, List.setIfInBounds_toArray, List.set_cons_zero, List.set_cons_succ])
              refine wpAnyH_take (i := 8) (v := ?_) rfl (by kernel_rfl) (by kernel_rfl) (by kernel_rfl) (fun _ _ _ h => h) (Or.inl ⟨by rfl, ?_⟩) (by assumption) ?_; rotate_left; (focus (intro wS hSw; (try dsimp only at hSw); go_simp <;> with_reducible rfl)); (try simp only [Act.put, List.getElem_toArray, List.getElem_cons_succ, List.getElem_cons_zero, List.setIfInBounds_toArray, List.set_cons_zero, List.set_cons_succ])
              refine wpAnyH_take (i := 9) (v := ?_) rfl (by kernel_rfl) (by kernel_rfl) (by kernel_rfl) (fun _ _ _ h => h) (Or.inl ⟨by rfl, ?_⟩) (by assumption) ?_; rotate_left; (focus (intro wS hSw; (try dsimp only at hSw); go_simp <;> with_reducible rfl)); (try simp only [Act.put, List.getElem_toArray, List.getElem_cons_succ, List.getElem_cons_zero, List.setIfInBounds_toArray, List.set_cons_zero, List.set_cons_succ])
              refine wpAnyH_take (i := 10) (v := ?_) rfl (by kernel_rfl) (by kernel_rfl) (by kernel_rfl) (fun _ _ _ h => h) (Or.inl ⟨by rfl, ?_⟩) (by assumption) ?_; rotate_left; (focus (intro wS hSw; (try dsimp only at hSw); go_simp <;> with_reducible rfl)); (try simp only [Act.put, List.getElem_toArray, List.getElem_cons_succ, List.getElem_cons_zero, List.setIfInBounds_toArray, List.set_cons_zero, List.set_cons_succ])
              refine wpAnyH_ready (rs := [6]) (by kernel_rfl) (by simp) ?_; refine AllReadyH.cons rfl (fun K hK => ?_) AllReadyH.nil; go_simp; (go_at_call 75; refine HD1.out.mono ?_; rintro e w4 ⟨rfl, hg⟩; have HB4 := Lib.hid (HBD.out.on hg); have HGX := Lib.hid (grownN_trans HGD.out hg); clear hg; have HD2 := Lib.hid (HDAY.out _ n HB4.out.grown))
              refine hK.out _ _ ?_ (fun hHeld => ?_)
              · exact ⟨HB4.out.land.three, HB4.out.party.cell 0, HCJ.out _ HGX.out⟩
              clear hK K
              (try simp only [Act.put, List.getElem_toArray, List.getElem_cons_succ, List.getElem_cons_zero, List.setIfInBounds_toArray, List.set_cons_zero, List.set_cons_succ])
              refine wpAnyH_ready (rs := [11]) (by kernel_rfl) (by simp) ?_; refine AllReadyH.cons rfl (fun K hK => ?_) AllReadyH.nil; go_simp; (go_at_call 75; refine HD2.out.mono ?_; rintro e w5 ⟨rfl, hg⟩; rw [← HBQ.out]; have HB5 := Lib.hid (HB4.out.on hg); have HGX2 := Lib.hid (grownN_trans HGX.out hg); clear hg)
              refine hK.out _ _ ?_ (fun hHeld => ?_)
              · exact ⟨HB5.out.land.three, HB5.out.party.cell 0, HCJ.out _ HGX2.out⟩
              clear hK K
              (try simp only [Act.put, List.getElem_toArray, List.getElem_cons_succ, List.getElem_cons_zero, List.setIfInBounds_toArray, List.set_cons_zero, List.set_cons_succ])
              refine wpAnyH_take (i := 12) (v := ?_) rfl (by kernel_rfl) (by kernel_rfl) (by kernel_rfl) (fun _ _ _ h => h) (Or.inl ⟨by rfl, ?_⟩) (by assumption) ?_; rotate_left; (focus (intro wS hSw; (try dsimp only at hSw); go_simp <;> with_reducible rfl)); (try simp only [Act.put, List.getElem_toArray, List.getElem_cons_succ, List.getElem_cons_zero, List.setIfInBounds_toArray, List.set_cons_zero, List.set_cons_succ])
              refine wpAnyH_done (by kernel_rfl) ?_ _
              (try simp only [Act.put, List.getElem_toArray, List.getElem_cons_succ, List.getElem_cons_zero, List.setIfInBounds_toArray, List.set_cons_zero, List.set_cons_succ])
              go_wp2
              go_ret
              exact ⟨ret_bool HE.out.symm, HB5.out.grown⟩
          · have hju : un = j := by omega
            have HE : Hid (must W H X base m rn D n f L P = true) := by
              show _ = _
              rw [HMR.out]
              exact all_ok (fun k hk => HM.out k (by rw [← hju, ← HUN.out]; exact hk))
            subst hju
            go_wp2
            go_ret
            exact ⟨ret_bool HE.out.symm, HBR.out.grown⟩
end Go.Proofs.YtonalkamfgpokaaGreat.Mst

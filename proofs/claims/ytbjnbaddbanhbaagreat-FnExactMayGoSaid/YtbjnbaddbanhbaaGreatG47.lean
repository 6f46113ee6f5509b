/- The food left at home and whether it is enough: the program's, and the model's. Contracts of the model's day, and of whether it leaves a party that can return. -/
import Derived.Test.YtbjnbaddbanhbaaGreatHomS
import Derived.Test.YtbjnbaddbanhbaaGreatHomP
import Derived.Test.YtbjnbaddbanhbaaGreatHwd
import Derived.Test.YtbjnbaddbanhbaaGreatG46
import Derived.Test.YtbjnbaddbanhbaaGreatG8
import Derived.Test.YtbjnbaddbanhbaaGreatG20
namespace Go.Proofs.YtbjnbaddbanhbaaGreat.Lah
open Go.RowKit Go.Shelf Kit Rw Rg Stm Crw CrS Four Hom Sgn Wf Itr Lft Pa HomS StI
attribute [local go_sem] Oper.semAt_some

theorem iterOf_yes {w : World} {base n f : Int} {wv cv pv dv : Value} {way Wl : List Int} {S0 : List Bool} {L : List Mem} {D : List (Int × Int)} (hc : SeesG encM w cv L) (hd : SeesG encP w dv D) (hway : Sees .i64 w wv way) (hcr : areCrew L = true) (hwy : way = n :: Wl)
    (hcal : calms S0 = Wl.length) (hf : 0 ≤ f ∧ f ≤ 10000) (hS : S0.length ≤ 3000000) (hpv : ∃ pa pn pc, pv = .slice pa pn pc) : IterOf w base n f wv cv pv dv S0 (days (needOf L) (gain L D) S0 Wl n f) :=
  fun W0 l LA Pb Hb Db hP hH hD hw hla hll hne J hJ hY h0 => iter_any 0 w W0 l LA Pb Hb Db base n f wv cv pv dv way Wl S0 L D hP hH hD hw hla hll hne hc hd hway hcr hwy hcal hf hS hpv J hJ hY h0
theorem iterOf_no {w : World} {base n f : Int} {wv cv pv dv : Value} {L : List Mem} (hc : SeesG encM w cv L) (hwv : ∃ wa wn wc, wv = .slice wa wn wc) (hf : 0 ≤ f ∧ f ≤ 10000) (hS : ([] : List Bool).length ≤ 3000000) (hpv : ∃ pa pn pc, pv = .slice pa pn pc) : IterOf w base n f wv cv pv dv [] [] :=
  fun W0 l LA Pb Hb Db hP hH hD hw hla hll hne J hJ hY h0 => Itn.iter_nil 0 w W0 l LA Pb Hb Db base n f wv cv pv dv L hP hH hD hw hla hll hne hc hwv hpv J hJ hY h0
theorem iterOf_any {w : World} {W H : Int} {X : List Int} {base n f : Int} {wv cv pv dv : Value} {M N : Nat} {L : List Mem} {D : List (Int × Int)} {P : List Bool} (hc : SeesG encM w cv L) (hd : SeesG encP w dv D) (hway : Sees .i64 w wv (wayOf W H X n base)) (hcr : areCrew L = true)
    (hM : M < N) (hN : N ≤ 10) (hf : 0 ≤ f ∧ f ≤ 10000) (hpv : ∃ pa pn pc, pv = .slice pa pn pc) :
    IterOf w base n f wv cv pv dv (signs M N P (((wayOf W H X n base).length : Int) - 1).toNat) (days (needOf L) (gain L D) (signs M N P (((wayOf W H X n base).length : Int) - 1).toNat) ((wayOf W H X n base).drop 1) n f) := by
  by_cases hw : wayOf W H X n base = []
  · obtain ⟨wa, wn, wc, e, _⟩ := hway.shape
    rw [hw, show (((([] : List Int).length : Nat) : Int) - 1).toNat = 0 from rfl, signs_zero]
    exact iterOf_no hc ⟨wa, wn, wc, e⟩ hf (by simp) hpv
  · obtain ⟨Wl, e, _⟩ := way_shape hw
    have hlen := wayOf_len W H X n base
    rw [e] at hway hlen ⊢
    have hk : (((n :: Wl).length : Int) - 1).toNat = Wl.length := by simp
    rw [hk]
    refine iterOf_yes hc hd hway hcr rfl (calms_signs hM hN _ P _ (Nat.le_refl _)) hf ?_ hpv
    have := signs_len M N P Wl.length
    simp at hlen
    omega

theorem leftC_any (w : World) {W H : Int} {X : List Int} (base n f : Int) (wv cv pv dv : Value) {M N : Nat} (L : List Mem) (D : List (Int × Int)) {P : List Bool} (S0 : List Bool) (hS0 : S0 = signs M N P (((wayOf W H X n base).length : Int) - 1).toNat)
    (hr : isRule (M : Int) (N : Int) = true) (hD : Dep.areDep W H X D = true) (hP : isParty W H X n f L P = true) (hM : M < N) (hN : N ≤ 10) (hc : SeesG encM w cv L) (hd : SeesG encP w dv D) (hway : Sees .i64 w wv (wayOf W H X n base)) (hpv : ∃ pa pn pc, pv = .slice pa pn pc) :
    Calls Tryz.prog 73 #[.agg #[.int .i64 base, wv, .string (text S0)], dv, .agg #[.int .i64 n, .int .i64 f, cv, pv]] w fun e w' =>
      e = .returned (.int .i64 (left W H X base M N D n f L P)) ∧ w.grownBy w' none := by
  subst hS0
  obtain ⟨hop, hcr, hf10, hP10⟩ := isParty_of hP
  have hg := gain_bd L D n hf10
  have hans := left_days (base := base) hr hD hP (by simpa using hM) (by simpa using hN)
  rw [Int.toNat_natCast, Int.toNat_natCast] at hans
  obtain ⟨wa, wn, wc, e, _⟩ := hway.shape
  have h := left_any w base n f wv cv pv dv _ L D _ hc hd hf10 hpv ⟨wa, wn, wc, e⟩ _ rfl (iterOf_any (P := P) hc hd hway hcr hM hN ⟨by omega, hg.2⟩ hpv)
  rw [hans] at h
  exact h

set_option maxRecDepth 100000 in
set_option maxHeartbeats 1000000 in
theorem iLeft_any (w : World) (W H base m rn n f : Int) (xv dv cv pv : Value) (X : List Int) (D : List (Int × Int)) (L : List Mem) (P : List Bool) (hm : (Lit.int .i64 m).wf = true) (hrn : (Lit.int .i64 rn).wf = true)
    (hx : Sees .i64 w xv X) (hd : SeesG encP w dv D) (hc : SeesG encM w cv L) (hp : SeesG encB w pv P) :
    Calls Tryz.prog 28 #[.agg #[.int .i64 W, .int .i64 H, xv], .int .i64 base, .agg #[.int .i64 m, .int .i64 rn], dv, .agg #[.int .i64 n, .int .i64 f, cv, pv]] w fun e w' => e = .returned (.int .i64 (left W H X base m rn D n f L P)) ∧ w.grownBy w' none := by
  obtain ⟨xa, xn, xc, rfl, HXN⟩ := hx.shape
  obtain ⟨da, dn, dc, rfl, HDN⟩ := hd.shape
  obtain ⟨ca, cn, cc, rfl, HCN⟩ := hc.shape
  obtain ⟨pa, pn, pc, rfl, HPN⟩ := hp.shape
  have HB0 := Lib.hid (H0.start (w := w) (W := W) (H := H) (m := m) (rn := rn) (n := n) (f := f) (xv := .slice xa xn xc) (cv := .slice ca cn cc) (pv := .slice pa pn pc))
  have HX := Lib.hid hx
  have HD := Lib.hid hd
  have HC := Lib.hid hc
  have HP := Lib.hid hp
  have HM := Lib.hid hm
  have HN := Lib.hid hrn
  clear hx hd hc hp hm hrn
  obtain ⟨⟨a0, a1, a2⟩, ⟨b0, b1⟩, c0, c1, c2, c3⟩ := HB0.out.cells
  go_enter Tryz.func28, Tryz.ntmps28
  go_wp2_with fail
  generalize ((w.alloc (.cells #[.int .i64 W, .int .i64 H, .slice xa xn xc] 36 (0, 0))).alloc (.cells #[.int .i64 m, .int .i64 rn] 38 (0, 0))).alloc (.cells #[.int .i64 n, .int .i64 f, .slice ca cn cc, .slice pa pn pc] 44 (0, 0)) = W0 at *
  generalize w.heap.size = A at *
  refine (iIsRule_any _ m rn HM.out HN.out).mono ?_
  rintro e w2 ⟨rfl, hg⟩
  have HB2 := Lib.hid (HB0.out.on hg)
  clear hg HB0 a0 a1 a2 b0 b1 c0 c1 c2 c3
  obtain ⟨⟨a0, a1, a2⟩, ⟨b0, b1⟩, c0, c1, c2, c3⟩ := HB2.out.cells
  cases hr : isRule m rn
  · have HR : Hid (left W H X base m rn D n f L P = -1) := canAsk_no1 (.inl hr)
    clear hr
    go_wp2
    go_ret
    exact ⟨ret_i64 HR.out.symm, HB2.out.grown⟩
  · have HRU := Lib.hid hr
    clear hr
    go_wp2_with fail
    refine (DepA.iAreDepots_any _ W H _ X _ D (HX.out.grown HB2.out.grown) (HD.out.grown HB2.out.grown)).mono ?_
    rintro e w3 ⟨rfl, hg⟩
    have HB3 := Lib.hid (HB2.out.on hg)
    clear hg HB2 a0 a1 a2 b0 b1 c0 c1 c2 c3
    obtain ⟨⟨a0, a1, a2⟩, ⟨b0, b1⟩, c0, c1, c2, c3⟩ := HB3.out.cells
    cases hr : Dep.areDep W H X D
    · have HR : Hid (left W H X base m rn D n f L P = -1) := canAsk_no1 (.inr (.inl hr))
      clear hr
      go_wp2
      go_ret
      exact ⟨ret_i64 HR.out.symm, HB3.out.grown⟩
    · have HDU := Lib.hid hr
      clear hr
      go_wp2_with fail
      refine (iIsParty_any _ W H _ X n f _ _ L P (HX.out.grown HB3.out.grown) (HC.out.grown HB3.out.grown) (HP.out.grown HB3.out.grown)).mono ?_
      rintro e w4 ⟨rfl, hg⟩
      have HB4 := Lib.hid (HB3.out.on hg)
      clear hg HB3 a0 a1 a2 b0 b1 c0 c1 c2 c3
      obtain ⟨⟨a0, a1, a2⟩, ⟨b0, b1⟩, c0, c1, c2, c3⟩ := HB4.out.cells
      cases hr : isParty W H X n f L P
      · have HR : Hid (left W H X base m rn D n f L P = -1) := canAsk_no1 (.inr (.inr (.inl hr)))
        clear hr
        go_wp2
        go_ret
        exact ⟨ret_i64 HR.out.symm, HB4.out.grown⟩
      · have HPU := Lib.hid hr
        clear hr
        obtain ⟨M, N, rfl, rfl, hMN, hN10⟩ := rule_nat HRU.out
        obtain ⟨hop, hcr, hf10, hP10⟩ := isParty_of HPU.out
        obtain ⟨S0, hS0⟩ : ∃ S0, S0 = signs M N P (((wayOf W H X n base).length : Int) - 1).toNat := ⟨_, rfl⟩
        have HS0 := Lib.hid hS0
        have HMN := Lib.hid (And.intro hMN hN10)
        have HBD := Lib.hid (HB4.out.on (grown_drew (World.grownBy.refl w4 none)))
        clear hop hcr hMN hN10 hf10 hP10 hS0
        go_wp2_with fail
        refine wp_region_held_drew (S := fun w' => (w'.cell? ⟨A, 0, none⟩ = some (.int .i64 W) ∧ w'.cell? ⟨A, 1, none⟩ = some (.int .i64 H) ∧ w'.cell? ⟨A, 2, none⟩ = some (.slice xa xn xc)) ∧ (w'.cell? ⟨A + 1, 0, none⟩ = some (.int .i64 (M : Int)) ∧ w'.cell? ⟨A + 1, 1, none⟩ = some (.int .i64 (N : Int))) ∧ (w'.cell? ⟨A + 2, 0, none⟩ = some (.int .i64 n) ∧ w'.cell? ⟨A + 2, 1, none⟩ = some (.int .i64 f) ∧ w'.cell? ⟨A + 2, 2, none⟩ = some (.slice ca cn cc) ∧ w'.cell? ⟨A + 2, 3, none⟩ = some (.slice pa pn pc))) (by kernel_rfl) HBD.out.cells (fun hHeld => ?_)
        refine wpAnyH_take (i := 0) (v := ?_) rfl (by kernel_rfl) (by kernel_rfl) (by kernel_rfl) (fun _ _ _ h => h) (Or.inl ⟨by rfl, ?_⟩) (by assumption) ?_; rotate_left; (focus (intro wS hSw; (try dsimp only at hSw); go_simp <;> with_reducible rfl)); (try simp only [Act.put, List.getElem_toArray, List.getElem_cons_succ, List.getElem_cons_zero, List.setIfInBounds_toArray, List.set_cons_zero, List.set_cons_succ])
        refine wpAnyH_take (i := 1) (v := ?_) rfl (by kernel_rfl) (by kernel_rfl) (by kernel_rfl) (fun _ _ _ h => h) (Or.inl ⟨by rfl, ?_⟩) (by assumption) ?_; rotate_left; (focus (intro wS hSw; (try dsimp only at hSw); go_simp <;> with_reducible rfl)); (try simp only [Act.put, List.getElem_toArray, List.getElem_cons_succ, List.getElem_cons_zero, List.setIfInBounds_toArray, List.set_cons_zero, List.set_cons_succ])
        refine wpAnyH_take (i := 2) (v := ?_) rfl (by kernel_rfl) (by kernel_rfl) (by kernel_rfl) (fun _ _ _ h => h) (Or.inl ⟨by rfl, ?_⟩) (by assumption) ?_; rotate_left; (focus (intro wS hSw; (try dsimp only at hSw); go_simp <;> with_reducible rfl)); (try simp only [Act.put, List.getElem_toArray, List.getElem_cons_succ, List.getElem_cons_zero, List.setIfInBounds_toArray, List.set_cons_zero, List.set_cons_succ])
        refine wpAnyH_take (i := 3) (v := ?_) rfl (by kernel_rfl) (by kernel_rfl) (by kernel_rfl) (fun _ _ _ h => h) (Or.inl ⟨by rfl, ?_⟩) (by assumption) ?_; rotate_left; (focus (intro wS hSw; (try dsimp only at hSw); go_simp <;> with_reducible rfl)); (try simp only [Act.put, List.getElem_toArray, List.getElem_cons_succ, List.getElem_cons_zero, List.setIfInBounds_toArray, List.set_cons_zero, List.set_cons_succ])
        refine wpAnyH_take (i := 5) (v := ?_) rfl (by kernel_rfl) (by kernel_rfl) (by kernel_rfl) (fun _ _ _ h => h) (Or.inl ⟨by rfl, ?_⟩) (by assumption) ?_; rotate_left; (focus (intro wS hSw; (try dsimp only at hSw); go_simp <;> with_reducible rfl)); (try simp only [Act.put, List.getElem_toArray, List.getElem_cons_succ, List.getElem_cons_zero, List.setIfInBounds_toArray, List.set_cons_zero, List.set_cons_succ])
        refine wpAnyH_take (i := 6) (v := ?_) rfl (by kernel_rfl) (by kernel_rfl) (by kernel_rfl) (fun _ _ _ h => h) (Or.inl ⟨by rfl, ?_⟩) (by assumption) ?_; rotate_left; (focus (intro wS hSw; (try dsimp only at hSw); go_simp <;> with_reducible rfl)); (try simp only [Act.put, List.getElem_toArray, List.getElem_cons_succ, List.getElem_cons_zero, List.setIfInBounds_toArray, List.set_cons_zero, List.set_cons_succ])
        refine wpAnyH_ready (rs := [4]) (by kernel_rfl) (by simp) ?_; refine AllReadyH.cons rfl (fun K hK => ?_) AllReadyH.nil; go_simp; (go_at_call 72; refine (Hwd.homewardOf_any _ W H base n f M N _ _ _ X P HM.out HMN.out.1 HMN.out.2 (HX.out.grown HBD.out.grown) ⟨_, _, _, rfl⟩ (HP.out.grown HBD.out.grown)).mono ?_; rintro e w6 ⟨wv, rfl, hwv, hg⟩; rw [← HS0.out]; have HB6 := Lib.hid (HBD.out.on hg); have HWV := Lib.hid hwv; clear hg hwv)
        refine hK.out _ _ ?_ (fun hHeld => ?_)
        · exact HB6.out.cells
        clear hK K
        (try simp only [Act.put, List.getElem_toArray, List.getElem_cons_succ, List.getElem_cons_zero, List.setIfInBounds_toArray, List.set_cons_zero, List.set_cons_succ])
        refine wpAnyH_ready (rs := [7]) (by kernel_rfl) (by simp) ?_; refine AllReadyH.cons rfl (fun K hK => ?_) AllReadyH.nil; go_simp; (go_at_call 73; refine (leftC_any _ base n f wv _ _ _ L D S0 HS0.out HRU.out HDU.out HPU.out HMN.out.1 HMN.out.2 (HC.out.grown HB6.out.grown) (HD.out.grown HB6.out.grown) HWV.out ⟨_, _, _, rfl⟩).mono ?_; rintro e w7 ⟨rfl, hg⟩; have HB7 := Lib.hid (HB6.out.on hg); clear hg)
        refine hK.out _ _ ?_ (fun hHeld => ?_)
        · exact HB7.out.cells
        clear hK K
        (try simp only [Act.put, List.getElem_toArray, List.getElem_cons_succ, List.getElem_cons_zero, List.setIfInBounds_toArray, List.set_cons_zero, List.set_cons_succ])
        refine wpAnyH_take (i := 8) (v := ?_) rfl (by kernel_rfl) (by kernel_rfl) (by kernel_rfl) (fun _ _ _ h => h) (Or.inl ⟨by rfl, ?_⟩) (by assumption) ?_; rotate_left; (focus (intro wS hSw; (try dsimp only at hSw); go_simp <;> with_reducible rfl)); (try simp only [Act.put, List.getElem_toArray, List.getElem_cons_succ, List.getElem_cons_zero, List.setIfInBounds_toArray, List.set_cons_zero, List.set_cons_succ])
        refine wpAnyH_done (by kernel_rfl) ?_ _
        (try simp only [Act.put, List.getElem_toArray, List.getElem_cons_succ, List.getElem_cons_zero, List.setIfInBounds_toArray, List.set_cons_zero, List.set_cons_succ])
        go_wp2
        go_ret
        exact ⟨rfl, HB7.out.grown⟩
set_option maxRecDepth 100000 in
set_option maxHeartbeats 1000000 in
theorem sLeft_any (w : World) (W H base m rn n f : Int) (xv dv cv pv : Value) (X : List Int) (D : List (Int × Int)) (L : List Mem) (P : List Bool) (hm : (Lit.int .i64 m).wf = true) (hrn : (Lit.int .i64 rn).wf = true) (hf : (Lit.int .i64 f).wf = true)
    (hx : Sees .i64 w xv X) (hd : SeesG encP w dv D) (hc : SeesG encM w cv L) (hp : SeesG encB w pv P) :
    Calls Tryz.prog 27 #[.agg #[.int .i64 W, .int .i64 H, xv], .int .i64 base, .agg #[.int .i64 m, .int .i64 rn], dv, .agg #[.int .i64 n, .int .i64 f, cv, pv]] w fun e w' => e = .returned (.int .i64 (left W H X base m rn D n f L P)) ∧ w.grownBy w' none := by
  obtain ⟨xa, xn, xc, rfl, HXN⟩ := hx.shape
  obtain ⟨da, dn, dc, rfl, HDN⟩ := hd.shape
  obtain ⟨ca, cn, cc, rfl, HCN⟩ := hc.shape
  obtain ⟨pa, pn, pc, rfl, HPN⟩ := hp.shape
  have HB0 := Lib.hid (H0.start (w := w) (W := W) (H := H) (m := m) (rn := rn) (n := n) (f := f) (xv := .slice xa xn xc) (cv := .slice ca cn cc) (pv := .slice pa pn pc))
  have hcall := sWorst_any _ W H base m rn n f _ _ _ _ X D L P hm hrn hf (hx.grown HB0.out.grown) (hd.grown HB0.out.grown) (hc.grown HB0.out.grown) (hp.grown HB0.out.grown)
  have HCALL := Lib.hid hcall
  clear hx hd hc hp hm hrn hf hcall
  obtain ⟨⟨a0, a1, a2⟩, ⟨b0, b1⟩, c0, c1, c2, c3⟩ := HB0.out.cells
  obtain ⟨z, hz⟩ : ∃ z, z = left W H X base m rn D n f L P := ⟨_, rfl⟩
  rw [← hz] at HCALL ⊢
  clear hz
  go_enter Tryz.func27, Tryz.ntmps27
  go_wp2_with fail
  refine HCALL.out.mono ?_
  rintro e w2 ⟨rfl, hg⟩
  have HG := Lib.hid (grownN_trans HB0.out.grown hg)
  clear hg
  go_wp2
  go_ret
  exact ⟨rfl, HG.out⟩
set_option maxRecDepth 100000 in
set_option maxHeartbeats 1000000 in
theorem sCan_any (w : World) (W H base m rn n f : Int) (xv dv cv pv : Value) (X : List Int) (D : List (Int × Int)) (L : List Mem) (P : List Bool) (hm : (Lit.int .i64 m).wf = true) (hrn : (Lit.int .i64 rn).wf = true) (hf : (Lit.int .i64 f).wf = true)
    (hx : Sees .i64 w xv X) (hd : SeesG encP w dv D) (hc : SeesG encM w cv L) (hp : SeesG encB w pv P) :
    Calls Tryz.prog 18 #[.agg #[.int .i64 W, .int .i64 H, xv], .int .i64 base, .agg #[.int .i64 m, .int .i64 rn], dv, .agg #[.int .i64 n, .int .i64 f, cv, pv]] w fun e w' => e = .returned (.bool (decide (0 ≤ left W H X base m rn D n f L P))) ∧ w.grownBy w' none := by
  obtain ⟨xa, xn, xc, rfl, HXN⟩ := hx.shape
  obtain ⟨da, dn, dc, rfl, HDN⟩ := hd.shape
  obtain ⟨ca, cn, cc, rfl, HCN⟩ := hc.shape
  obtain ⟨pa, pn, pc, rfl, HPN⟩ := hp.shape
  have HB0 := Lib.hid (H0.start (w := w) (W := W) (H := H) (m := m) (rn := rn) (n := n) (f := f) (xv := .slice xa xn xc) (cv := .slice ca cn cc) (pv := .slice pa pn pc))
  have hcall := sWorst_any _ W H base m rn n f _ _ _ _ X D L P hm hrn hf (hx.grown HB0.out.grown) (hd.grown HB0.out.grown) (hc.grown HB0.out.grown) (hp.grown HB0.out.grown)
  have HCALL := Lib.hid hcall
  clear hx hd hc hp hm hrn hf hcall
  obtain ⟨⟨a0, a1, a2⟩, ⟨b0, b1⟩, c0, c1, c2, c3⟩ := HB0.out.cells
  obtain ⟨z, hz⟩ : ∃ z, z = left W H X base m rn D n f L P := ⟨_, rfl⟩
  rw [← hz] at HCALL ⊢
  clear hz
  go_enter Tryz.func18, Tryz.ntmps18
  go_wp2_with fail
  refine HCALL.out.mono ?_
  rintro e w2 ⟨rfl, hg⟩
  have HG := Lib.hid (grownN_trans HB0.out.grown hg)
  clear hg
  by_cases hz : 0 ≤ z
  · go_wp2
    go_ret
    exact ⟨by simp [hz], HG.out⟩
  · go_wp2
    go_ret
    exact ⟨by simp [hz], HG.out⟩
set_option maxRecDepth 100000 in
set_option maxHeartbeats 1000000 in
theorem iCan_any (w : World) (W H base m rn n f : Int) (xv dv cv pv : Value) (X : List Int) (D : List (Int × Int)) (L : List Mem) (P : List Bool) (hm : (Lit.int .i64 m).wf = true) (hrn : (Lit.int .i64 rn).wf = true)
    (hx : Sees .i64 w xv X) (hd : SeesG encP w dv D) (hc : SeesG encM w cv L) (hp : SeesG encB w pv P) :
    Calls Tryz.prog 23 #[.agg #[.int .i64 W, .int .i64 H, xv], .int .i64 base, .agg #[.int .i64 m, .int .i64 rn], dv, .agg #[.int .i64 n, .int .i64 f, cv, pv]] w fun e w' => e = .returned (.bool (decide (0 ≤ left W H X base m rn D n f L P))) ∧ w.grownBy w' none := by
  obtain ⟨xa, xn, xc, rfl, HXN⟩ := hx.shape
  obtain ⟨da, dn, dc, rfl, HDN⟩ := hd.shape
  obtain ⟨ca, cn, cc, rfl, HCN⟩ := hc.shape
  obtain ⟨pa, pn, pc, rfl, HPN⟩ := hp.shape
  have HB0 := Lib.hid (H0.start (w := w) (W := W) (H := H) (m := m) (rn := rn) (n := n) (f := f) (xv := .slice xa xn xc) (cv := .slice ca cn cc) (pv := .slice pa pn pc))
  have hcall := iLeft_any _ W H base m rn n f _ _ _ _ X D L P hm hrn (hx.grown HB0.out.grown) (hd.grown HB0.out.grown) (hc.grown HB0.out.grown) (hp.grown HB0.out.grown)
  have HCALL := Lib.hid hcall
  clear hx hd hc hp hm hrn hcall
  obtain ⟨⟨a0, a1, a2⟩, ⟨b0, b1⟩, c0, c1, c2, c3⟩ := HB0.out.cells
  obtain ⟨z, hz⟩ : ∃ z, z = left W H X base m rn D n f L P := ⟨_, rfl⟩
  rw [← hz] at HCALL ⊢
  clear hz
  go_enter Tryz.func23, Tryz.ntmps23
  go_wp2_with fail
  refine HCALL.out.mono ?_
  rintro e w2 ⟨rfl, hg⟩
  have HG := Lib.hid (grownN_trans HB0.out.grown hg)
  clear hg
  by_cases hz : 0 ≤ z
  · go_wp2
    go_ret
    exact ⟨by simp [hz], HG.out⟩
  · go_wp2
    go_ret
    exact ⟨by simp [hz], HG.out⟩
end Go.Proofs.YtbjnbaddbanhbaaGreat.Lah

namespace Go.Proofs.YtbjnbaddbanhbaaGreat.Day
open Go.RowKit Kit Rw Rg Four PartyL Pc Pd Pe Stm Crw Hom HomS

set_option maxRecDepth 20000 in
set_option maxHeartbeats 4000000 in
theorem sDay_any (w : World) (n f a : Int) (st : Bool) (cv pv : Value) (L : List Mem) (P : List Bool) (hf : (Lit.int .i64 f).wf = true) (hc : SeesG encM w cv L) (hp : SeesG encB w pv P) (hL : L.length ≤ 1000000000) (hP : P.length ≤ 100000000) :
    Calls Tryz.prog 98 #[.agg #[.int .i64 n, .int .i64 f, cv, pv], .int .i64 a, .bool st] w fun e w' => ∃ u t, e = .returned (.tuple #[.agg #[.int .i64 a, .int .i64 (eatF L f), u, t], .bool (eatB L f)]) ∧ SitsG encM w' w.heap.size u L ∧ SitsG encB w' w.heap.size t (addDay P st) ∧ Apart t u ∧ w.grownBy w' none := by
  obtain ⟨pa, pn, pc, rfl, HPN⟩ := hp.shape
  have g0 := World.grownBy_alloc w (.cells #[.int .i64 n, .int .i64 f, cv, .slice pa pn pc] 44 (0, 0)) (none : Option Nat)
  have g1 := World.grownBy_alloc (w.alloc (.cells #[.int .i64 n, .int .i64 f, cv, .slice pa pn pc] 44 (0, 0))) (.cells #[.int .i64 0, .int .i64 0, .slice none 0 0, .slice none 0 0] 44 (0, 0)) (none : Option Nat)
  have b0 := (box_new w #[.int .i64 n, .int .i64 f, cv, .slice pa pn pc] 44).grown g1
  have b1 := box_new (w.alloc (.cells #[.int .i64 n, .int .i64 f, cv, .slice pa pn pc] 44 (0, 0))) #[.int .i64 0, .int .i64 0, .slice none 0 0, .slice none 0 0] 44
  simp only [World.size_alloc] at b1
  have HG := Lib.hid (grownN_trans g0 g1)
  have HC := Lib.hid (hc.grown HG.out)
  have HP := Lib.hid (hp.grown HG.out)
  have B0 := Lib.hid b0
  have B1 := Lib.hid b1
  have HLL := Lib.hid hL
  have HPP := Lib.hid hP
  have HF := Lib.hid hf
  obtain ⟨c0, c1, c2, c3⟩ := four b0
  clear hc hp g0 g1 b0 b1 hL hP hf
  go_enter Tryz.func98, Tryz.ntmps98
  go_wp2_with fail
  generalize (w.alloc (.cells #[.int .i64 n, .int .i64 f, cv, .slice pa pn pc] 44 (0, 0))).alloc (.cells #[.int .i64 0, .int .i64 0, .slice none 0 0, .slice none 0 0] 44 (0, 0)) = W at *
  refine (Pg.sEatL W n f _ _ L P HF.out HC.out HP.out HLL.out (by have := HPP.out; omega)).mono ?_
  rintro e w3 ⟨u, t, rfl, hu, ht, hap, hg⟩
  have HZ := Lib.hid HG.out.size
  have HU := Lib.hid (hu.lower HZ.out)
  have HNU := Lib.hid (hu.off B1.out.lt)
  have HUL := Lib.hid hu.lt
  have B3 := Lib.hid (B1.out.grown hg)
  have A3 := Lib.hid (B0.out.grown hg)
  have HG3 := Lib.hid (grownN_trans HG.out hg)
  have HP3 := Lib.hid (HP.out.grown hg)
  obtain ⟨ua, un, uc, hu', HUN⟩ := hu.sees.shape
  subst hu'
  obtain ⟨ta, tn, tc, ht', HTN⟩ := ht.sees.shape
  subst ht'
  have gk := World.grownBy_alloc w3 (.cells #[.int .i64 n, .int .i64 (eatF L f), .slice ua un uc, .slice ta tn tc] 44 (0, 0)) (none : Option Nat)
  have bk := box_new w3 #[.int .i64 n, .int .i64 (eatF L f), .slice ua un uc, .slice ta tn tc] 44
  have GK := Lib.hid gk
  have BK := Lib.hid bk
  have BR := Lib.hid (B3.out.grown gk)
  have d3 := (A3.out.grown gk).cell 3
  have HKA := Lib.hid (show w.heap.size + 1 < w3.heap.size from B3.out.lt)
  have HGK := Lib.hid (grownN_trans HG3.out gk)
  have HPK := Lib.hid (HP3.out.grown gk)
  have HUS := Lib.hid (HU.out.sits.grown gk)
  clear hu ht hap hg c0 c1 c2 c3 gk bk HP3 HU
  go_wp2_with fail
  generalize w3.alloc (.cells #[.int .i64 n, .int .i64 (eatF L f), .slice ua un uc, .slice ta tn tc] 44 (0, 0)) = W4 at *
  generalize w3.heap.size = K at *
  clear d3
  refine (RuleL.sAddDayG _ _ P st HPK.out HPP.out).mono ?_
  rintro e w5 ⟨s, rfl, ho, hg⟩
  obtain ⟨sa, sn, sc, hs', HSN⟩ := ho.sees.shape
  subst hs'
  have hBK := BK.out.grown hg
  have hBR := BR.out.grown hg
  have hKl := BK.out.lt
  have HG5 := Lib.hid (grownN_trans HGK.out hg)
  have HO5 := Lib.hid ho
  have HU5 := Lib.hid (HUS.out.grown hg)
  have HAP := Lib.hid (show Apart (.slice sa sn sc) (.slice ua un uc) from apart_lt ho.lt HUS.out.lt (Nat.le_refl _))
  have hKA := HKA.out
  have hUK : (Value.slice ua un uc).ownBlock ≠ some K := fun e => by have := HUL.out _ e; omega
  have e3 : w5.cell? ⟨K, 3, none⟩ = some (.slice ta tn tc) := hBK.cell 3
  have y3 := hBK.free 3
  have b1 := four_set3 (v := .slice sa sn sc) hBK
  have e0 : (w5.setCell ⟨K, 3, none⟩ (.slice sa sn sc)).cell? ⟨K, 0, none⟩ = some (.int .i64 n) := b1.cell 0
  have y0 := b1.free 0
  have b2 := four_set0 (v := .int .i64 a) b1
  obtain ⟨k0, k1, k2, k3⟩ := four b2
  have r2 := (hBR.kept (grown_set w5 K 3 (.slice sa sn sc)) (by intro e; injection e with e; omega)).kept (grown_set _ K 0 (.int .i64 a)) (by intro e; injection e with e; omega)
  obtain ⟨⟨p0, q0⟩, ⟨p1, q1⟩, ⟨p2, q2⟩, ⟨p3, q3⟩⟩ := put4_on r2 (.int .i64 a) (.int .i64 (eatF L f)) (.slice ua un uc) (.slice sa sn sc)
  have HR2 := Lib.hid r2
  have HUK := Lib.hid hUK
  have HKL := Lib.hid hKl
  clear ho hg hBK hBR b1 b2 r2 hUK hKl
  go_wp2
  try simp only [Exit.inBlock, Exit.then]
  have hkl := HKL.out
  have s3 := grown_set w5 K 3 (.slice sa sn sc)
  have s0 := grown_set (w5.setCell ⟨K, 3, none⟩ (.slice sa sn sc)) K 0 (.int .i64 a)
  have s4 := put4_grown ((w5.setCell ⟨K, 3, none⟩ (.slice sa sn sc)).setCell ⟨K, 0, none⟩ (.int .i64 a)) (w.heap.size + 1) (.int .i64 a) (.int .i64 (eatF L f)) (.slice ua un uc) (.slice sa sn sc)
  refine ret_box1 rfl rfl (put4_box (x' := .int .i64 a) (y' := .int .i64 (eatF L f)) (z' := (.slice ua un uc)) (u' := (.slice sa sn sc)) HR2.out) Tryz.underlying44 rfl (by kernel_rfl) rfl ?_
  refine ⟨(.slice ua un uc), (.slice sa sn sc), rfl, ?_, ?_, HAP.out, ?_⟩
  · exact ((HU5.out.kept s3 (.inr HUK.out)).kept s0 (.inr HUK.out)).kept s4 (.inr HNU.out)
  · exact (((HO5.out.kept s3 (.inr (HO5.out.off (by omega)))).kept s0 (.inr (HO5.out.off (by omega)))).kept s4 (.inr (HO5.out.off (by omega)))).lower HGK.out.size
  · exact grown_new (grown_new (grown_new HG5.out s3 (fun c h => by injection h with h; omega)) s0 (fun c h => by injection h with h; omega)) s4 (fun c h => by injection h with h; omega)

/-- Whether a day leaves a party that can return. -/
noncomputable def safe (W H : Int) (X : List Int) (base m rn : Int) (D : List (Int × Int)) (f : Int) (L : List Mem) (P : List Bool) (gx : Int) (st : Bool) : Bool :=
  eatB L f && decide (0 ≤ left W H X base m rn D gx (eatF L f) L (addDay P st))

set_option maxRecDepth 20000 in
set_option maxHeartbeats 2000000 in
theorem sSafe_any (w : World) (W H base m rn n f gx : Int) (st : Bool) (xv dv cv pv : Value) (X : List Int) (D : List (Int × Int)) (L : List Mem) (P : List Bool) (hm : (Lit.int .i64 m).wf = true) (hrn : (Lit.int .i64 rn).wf = true) (hf : (Lit.int .i64 f).wf = true)
    (hx : Sees .i64 w xv X) (hd : SeesG encP w dv D) (hc : SeesG encM w cv L) (hp : SeesG encB w pv P) (hL : L.length ≤ 1000000000) (hP : P.length ≤ 100000000) :
    Calls Tryz.prog 94 #[.agg #[.int .i64 W, .int .i64 H, xv], .int .i64 base, .agg #[.int .i64 m, .int .i64 rn], dv, .agg #[.int .i64 n, .int .i64 f, cv, pv], .int .i64 gx, .bool st] w fun e w' => e = .returned (.bool (safe W H X base m rn D f L P gx st)) ∧ w.grownBy w' none := by
  obtain ⟨xa, xn, xc, rfl, HXN⟩ := hx.shape
  obtain ⟨da, dn, dc, rfl, HDN⟩ := hd.shape
  obtain ⟨ca, cn, cc, rfl, HCN⟩ := hc.shape
  obtain ⟨pa, pn, pc, rfl, HPN⟩ := hp.shape
  have HB0 := Lib.hid (H0.start (w := w) (W := W) (H := H) (m := m) (rn := rn) (n := n) (f := f) (xv := .slice xa xn xc) (cv := .slice ca cn cc) (pv := .slice pa pn pc))
  have HX := Lib.hid (hx.grown HB0.out.grown)
  have HD := Lib.hid (hd.grown HB0.out.grown)
  have HC := Lib.hid (hc.grown HB0.out.grown)
  have HP := Lib.hid (hp.grown HB0.out.grown)
  have HM := Lib.hid (And.intro hm (And.intro hrn hf))
  have HLP := Lib.hid (And.intro hL hP)
  clear hx hd hc hp hm hrn hf hL hP
  obtain ⟨⟨a0, a1, a2⟩, ⟨b0, b1⟩, c0, c1, c2, c3⟩ := HB0.out.cells
  go_enter Tryz.func94, Tryz.ntmps94
  go_wp2_with fail
  generalize ((w.alloc (.cells #[.int .i64 W, .int .i64 H, .slice xa xn xc] 36 (0, 0))).alloc (.cells #[.int .i64 m, .int .i64 rn] 38 (0, 0))).alloc (.cells #[.int .i64 n, .int .i64 f, .slice ca cn cc, .slice pa pn pc] 44 (0, 0)) = W0 at *
  generalize w.heap.size = A at *
  refine (sDay_any _ n f gx st _ _ L P HM.out.2.2 HC.out HP.out HLP.out.1 HLP.out.2).mono ?_
  rintro e w2 ⟨u, t, rfl, hu, ht, _, hg⟩
  obtain ⟨ua, un, uc, hu', HUN⟩ := hu.sees.shape
  subst hu'
  obtain ⟨ta, tn, tc, ht', HTN⟩ := ht.sees.shape
  subst ht'
  have gk := World.grownBy_alloc w2 (.cells #[.int .i64 gx, .int .i64 (eatF L f), .slice ua un uc, .slice ta tn tc] 44 (0, 0)) (none : Option Nat)
  have bk := box_new w2 #[.int .i64 gx, .int .i64 (eatF L f), .slice ua un uc, .slice ta tn tc] 44
  have HB2 := Lib.hid ((HB0.out.on hg).on gk)
  have HG2 := Lib.hid (grownN_trans hg gk)
  have HU := Lib.hid (hu.sees.grown gk)
  have HT := Lib.hid (ht.sees.grown gk)
  clear hu ht hg a0 a1 a2 b0 b1 c0 c1 c2 c3
  cases hb : eatB L f
  · have HS : Hid (safe W H X base m rn D f L P gx st = false) := by show _ = _; unfold safe; rw [hb]; rfl
    clear hb
    go_wp2
    go_ret
    exact ⟨by rw [HS.out]; rfl, HB2.out.grown⟩
  · have HS : Hid (safe W H X base m rn D f L P gx st = decide (0 ≤ left W H X base m rn D gx (eatF L f) L (addDay P st))) := by show _ = _; unfold safe; rw [hb]; rfl
    have hcan := fun w' hx hd hc hp => Lah.sCan_any w' W H base m rn gx (eatF L f) (.slice xa xn xc) (.slice da dn dc) (.slice ua un uc) (.slice ta tn tc) X D L (addDay P st) HM.out.1 HM.out.2.1 (eat_wf HM.out.2.2) hx hd hc hp
    obtain ⟨q, hq⟩ : ∃ q, q = decide (0 ≤ left W H X base m rn D gx (eatF L f) L (addDay P st)) := ⟨_, rfl⟩
    rw [← hq] at hcan HS
    have HCAN := Lib.hid hcan
    clear hb hcan hq
    obtain ⟨⟨a0, a1, a2⟩, ⟨b0, b1⟩, c0, c1, c2, c3⟩ := HB2.out.cells
    obtain ⟨k0, k1, k2, k3⟩ := four bk
    clear bk
    go_wp2_with fail
    refine (HCAN.out _ (HX.out.grown HG2.out) (HD.out.grown HG2.out) HU.out HT.out).mono ?_
    rintro e w5 ⟨rfl, hg⟩
    have HG5 := Lib.hid (grownN_trans HB2.out.grown hg)
    clear hg
    go_wp2
    go_ret
    exact ⟨by rw [HS.out]; rfl, HG5.out⟩
end Go.Proofs.YtbjnbaddbanhbaaGreat.Day

/- The food left at home and whether it is enough: the program's, and the model's. -/
import Derived.Test.YtonalkamfgpokaaGreatHomS
import Derived.Test.YtonalkamfgpokaaGreatHomP
import Derived.Test.YtonalkamfgpokaaGreatHwd
import Derived.Test.YtonalkamfgpokaaGreatG43
import Derived.Test.YtonalkamfgpokaaGreatG8
namespace Go.Proofs.YtonalkamfgpokaaGreat.Lah
open Go.RowKit Go.Shelf Kit Rw Rg Stm Crw CrS Four Hom Sgn Wf Itr Lft Pa HomS StI
attribute [local go_sem] Oper.semAt_some

theorem iterOf_yes {w : World} {base n f : Int} {wv cv pv dv : Value} {way Wl : List Int} {S0 : List Bool} {L : List Mem} {D : List (Int × Int)} (hc : SeesG encM w cv L) (hd : SeesG encP w dv D) (hway : Sees .i64 w wv way) (hcr : areCrew L = true) (hwy : way = n :: Wl)
    (hcal : calms S0 = Wl.length) (hf : 0 ≤ f ∧ f ≤ 10000) (hS : S0.length ≤ 3000000) (hpv : ∃ pa pn pc, pv = .slice pa pn pc) : IterOf w base n f wv cv pv dv S0 (days (needOf L) (gain L D) S0 Wl n f) :=
  fun W0 l LA Pb Hb Db hP hH hD hw hla hll hne J hJ hY h0 => iter_any 0 w W0 l LA Pb Hb Db base n f wv cv pv dv way Wl S0 L D hP hH hD hw hla hll hne hc hd hway hcr hwy hcal hf hS hpv J hJ hY h0
theorem iterOf_no {w : World} {base n f : Int} {wv cv pv dv : Value} {L : List Mem} (hc : SeesG encM w cv L) (hwv : ∃ wa wn wc, wv = .slice wa wn wc) (hf : 0 ≤ f ∧ f ≤ 10000) (hS : ([] : List Bool).length ≤ 3000000) (hpv : ∃ pa pn pc, pv = .slice pa pn pc) : IterOf w base n f wv cv pv dv [] [] :=
  fun W0 l LA Pb Hb Db hP hH hD hw hla hll hne J hJ hY h0 => Itn.iter_nil 0 w W0 l LA Pb Hb Db base n f wv cv pv dv L hP hH hD hw hla hll hne hc hwv hpv J hJ hY h0
theorem iterOf_any {w : World} {W H : Int} {X : List Int} {base n f : Int} {wv cv pv dv : Value} {M N : Nat} {L : List Mem} {D : List (Int × Int)} {P : List Bool} (hc : SeesG encM w cv L) (hd : SeesG encP w dv D) (hway : Sees .i64 w wv (wayOf W H X n base)) (hcr : areCrew L = true)
    (hM : M < N) (hN : N ≤ 10) (hf : 0 ≤ f ∧ f ≤ 10000) (hpv : ∃ pa pn pc, pv = .slice pa pn pc) :
    IterOf w base n f wv cv pv dv (signs M N P (((wayOf W H X n base).length : Int) - 1).toNat) (days (needOf L) (gain L D) (signs M N P (((wayOf W H X n base).length : Int) - 1).toNat) ((wayOf W H X n base).drop 1) n f) := by
  by_cases hw : wayOf W H X n base = []
  · obtain ⟨wa, wn, wc, e, _⟩ := hway.shape
    rw [hw, show (((([] : List Int).length : Nat) : Int) - 1).toNat = 0 from rfl, signs_zero]
    exact iterOf_no hc ⟨wa, wn, wc, e⟩ hf (by simp) hpv
  · obtain ⟨Wl, e, _⟩ := way_shape hw
    have hlen := wayOf_len W H X n base
    rw [e] at hway hlen ⊢
    have hk : (((n :: Wl).length : Int) - 1).toNat = Wl.length := by simp
    rw [hk]
    refine iterOf_yes hc hd hway hcr rfl (calms_signs hM hN _ P _ (Nat.le_refl _)) hf ?_ hpv
    have := signs_len M N P Wl.length
    simp at hlen
    omega

theorem leftC_any (w : World) {W H : Int} {X : List Int} (base n f : Int) (wv cv pv dv : Value) {M N : Nat} (L : List Mem) (D : List (Int × Int)) {P : List Bool} (S0 : List Bool) (hS0 : S0 = signs M N P (((wayOf W H X n base).length : Int) - 1).toNat)
    (hr : isRule (M : Int) (N : Int) = true) (hD : Dep.areDep W H X D = true) (hP : isParty W H X n f L P = true) (hM : M < N) (hN : N ≤ 10) (hc : SeesG encM w cv L) (hd : SeesG encP w dv D) (hway : Sees .i64 w wv (wayOf W H X n base)) (hpv : ∃ pa pn pc, pv = .slice pa pn pc) :
    Calls Tryz.prog 174 #[.agg #[.int .i64 base, wv, .string (text S0)], dv, .agg #[.int .i64 n, .int .i64 f, cv, pv]] w fun e w' =>
      e = .returned (.int .i64 (left W H X base M N D n f L P)) ∧ w.grownBy w' none := by
  subst hS0
  obtain ⟨hop, hcr, hf10, hP10⟩ := isParty_of hP
  have hg := gain_bd L D n hf10
  have hans := left_days (base := base) hr hD hP (by simpa using hM) (by simpa using hN)
  rw [Int.toNat_natCast, Int.toNat_natCast] at hans
  obtain ⟨wa, wn, wc, e, _⟩ := hway.shape
  have h := left_any w base n f wv cv pv dv _ L D _ hc hd hf10 hpv ⟨wa, wn, wc, e⟩ _ rfl (iterOf_any (P := P) hc hd hway hcr hM hN ⟨by omega, hg.2⟩ hpv)
  rw [hans] at h
  exact h

set_option maxRecDepth 100000 in
set_option maxHeartbeats 1000000 in
theorem iLeft_any (w : World) (W H base m rn n f : Int) (xv dv cv pv : Value) (X : List Int) (D : List (Int × Int)) (L : List Mem) (P : List Bool) (hm : (Lit.int .i64 m).wf = true) (hrn : (Lit.int .i64 rn).wf = true)
    (hx : Sees .i64 w xv X) (hd : SeesG encP w dv D) (hc : SeesG encM w cv L) (hp : SeesG encB w pv P) :
    Calls Tryz.prog 124 #[.agg #[.int .i64 W, .int .i64 H, xv], .int .i64 base, .agg #[.int .i64 m, .int .i64 rn], dv, .agg #[.int .i64 n, .int .i64 f, cv, pv]] w fun e w' => e = .returned (.int .i64 (left W H X base m rn D n f L P)) ∧ w.grownBy w' none := by
  obtain ⟨xa, xn, xc, rfl, HXN⟩ := hx.shape
  obtain ⟨da, dn, dc, rfl, HDN⟩ := hd.shape
  obtain ⟨ca, cn, cc, rfl, HCN⟩ := hc.shape
  obtain ⟨pa, pn, pc, rfl, HPN⟩ := hp.shape
  have HB0 := Lib.hid (H0.start (w := w) (W := W) (H := H) (m := m) (rn := rn) (n := n) (f := f) (xv := .slice xa xn xc) (cv := .slice ca cn cc) (pv := .slice pa pn pc))
  have HX := Lib.hid hx
  have HD := Lib.hid hd
  have HC := Lib.hid hc
  have HP := Lib.hid hp
  have HM := Lib.hid hm
  have HN := Lib.hid hrn
  clear hx hd hc hp hm hrn
  obtain ⟨⟨a0, a1, a2⟩, ⟨b0, b1⟩, c0, c1, c2, c3⟩ := HB0.out.cells
  go_enter Tryz.func124, Tryz.ntmps124
  go_wp2_with fail
  generalize ((w.alloc (.cells #[.int .i64 W, .int .i64 H, .slice xa xn xc] 37 (0, 0))).alloc (.cells #[.int .i64 m, .int .i64 rn] 38 (0, 0))).alloc (.cells #[.int .i64 n, .int .i64 f, .slice ca cn cc, .slice pa pn pc] 42 (0, 0)) = W0 at *
  generalize w.heap.size = A at *
  refine (iIsRule_any _ m rn HM.out HN.out).mono ?_
  rintro e w2 ⟨rfl, hg⟩
  have HB2 := Lib.hid (HB0.out.on hg)
  clear hg HB0 a0 a1 a2 b0 b1 c0 c1 c2 c3
  obtain ⟨⟨a0, a1, a2⟩, ⟨b0, b1⟩, c0, c1, c2, c3⟩ := HB2.out.cells
  cases hr : isRule m rn
  · have HR : Hid (left W H X base m rn D n f L P = -1) := canAsk_no1 (.inl hr)
    clear hr
    go_wp2
    go_ret
    exact ⟨ret_i64 HR.out.symm, HB2.out.grown⟩
  · have HRU := Lib.hid hr
    clear hr
    go_wp2_with fail
    refine (DepA.iAreDepots_any _ W H _ X _ D (HX.out.grown HB2.out.grown) (HD.out.grown HB2.out.grown)).mono ?_
    rintro e w3 ⟨rfl, hg⟩
    have HB3 := Lib.hid (HB2.out.on hg)
    clear hg HB2 a0 a1 a2 b0 b1 c0 c1 c2 c3
    obtain ⟨⟨a0, a1, a2⟩, ⟨b0, b1⟩, c0, c1, c2, c3⟩ := HB3.out.cells
    cases hr : Dep.areDep W H X D
    · have HR : Hid (left W H X base m rn D n f L P = -1) := canAsk_no1 (.inr (.inl hr))
      clear hr
      go_wp2
      go_ret
      exact ⟨ret_i64 HR.out.symm, HB3.out.grown⟩
    · have HDU := Lib.hid hr
      clear hr
      go_wp2_with fail
      refine (iIsParty_any _ W H _ X n f _ _ L P (HX.out.grown HB3.out.grown) (HC.out.grown HB3.out.grown) (HP.out.grown HB3.out.grown)).mono ?_
      rintro e w4 ⟨rfl, hg⟩
      have HB4 := Lib.hid (HB3.out.on hg)
      clear hg HB3 a0 a1 a2 b0 b1 c0 c1 c2 c3
      obtain ⟨⟨a0, a1, a2⟩, ⟨b0, b1⟩, c0, c1, c2, c3⟩ := HB4.out.cells
      cases hr : isParty W H X n f L P
      · have HR : Hid (left W H X base m rn D n f L P = -1) := canAsk_no1 (.inr (.inr (.inl hr)))
        clear hr
        go_wp2
        go_ret
        exact ⟨ret_i64 HR.out.symm, HB4.out.grown⟩
      · have HPU := Lib.hid hr
        clear hr
        obtain ⟨M, N, rfl, rfl, hMN, hN10⟩ := rule_nat HRU.out
        obtain ⟨hop, hcr, hf10, hP10⟩ := isParty_of HPU.out
        obtain ⟨S0, hS0⟩ : ∃ S0, S0 = signs M N P (((wayOf W H X n base).length : Int) - 1).toNat := ⟨_, rfl⟩
        have HS0 := Lib.hid hS0
        have HMN := Lib.hid (And.intro hMN hN10)
        have HBD := Lib.hid (HB4.out.on (grown_drew (World.grownBy.refl w4 none)))
        clear hop hcr hMN hN10 hf10 hP10 hS0
        go_wp2_with fail
        refine wp_region_held_drew (S := fun w' => (w'.cell? ⟨A, 0, none⟩ = some (.int .i64 W) ∧ w'.cell? ⟨A, 1, none⟩ = some (.int .i64 H) ∧ w'.cell? ⟨A, 2, none⟩ = some (.slice xa xn xc)) ∧ (w'.cell? ⟨A + 1, 0, none⟩ = some (.int .i64 (M : Int)) ∧ w'.cell? ⟨A + 1, 1, none⟩ = some (.int .i64 (N : Int))) ∧ (w'.cell? ⟨A + 2, 0, none⟩ = some (.int .i64 n) ∧ w'.cell? ⟨A + 2, 1, none⟩ = some (.int .i64 f) ∧ w'.cell? ⟨A + 2, 2, none⟩ = some (.slice ca cn cc) ∧ w'.cell? ⟨A + 2, 3, none⟩ = some (.slice pa pn pc))) (by kernel_rfl) HBD.out.cells (fun hHeld => ?_)
        refine wpAnyH_take (i := 0) (v := ?_) rfl (by kernel_rfl) (by kernel_rfl) (by kernel_rfl) (fun _ _ _ h => h) (Or.inl ⟨by rfl, ?_⟩) (by assumption) ?_; rotate_left; (focus (intro wS hSw; (try dsimp only at hSw); go_simp <;> with_reducible rfl)); (try simp only [Act.put, List.getElem_toArray, List.getElem_cons_succ, List.getElem_cons_zero, List.setIfInBounds_toArray, List.set_cons_zero, List.set_cons_succ])
        refine wpAnyH_take (i := 1) (v := ?_) rfl (by kernel_rfl) (by kernel_rfl) (by kernel_rfl) (fun _ _ _ h => h) (Or.inl ⟨by rfl, ?_⟩) (by assumption) ?_; rotate_left; (focus (intro wS hSw; (try dsimp only at hSw); go_simp <;> with_reducible rfl)); (try simp only [Act.put, List.getElem_toArray, List.getElem_cons_succ, List.getElem_cons_zero, List.setIfInBounds_toArray, List.set_cons_zero, List.set_cons_succ])
        refine wpAnyH_take (i := 2) (v := ?_) rfl (by kernel_rfl) (by kernel_rfl) (by kernel_rfl) (fun _ _ _ h => h) (Or.inl ⟨by rfl, ?_⟩) (by assumption) ?_; rotate_left; (focus (intro wS hSw; (try dsimp only at hSw); go_simp <;> with_reducible rfl)); (try simp only [Act.put, List.getElem_toArray, List.getElem_cons_succ, List.getElem_cons_zero, List.setIfInBounds_toArray, List.set_cons_zero, List.set_cons_succ])
        refine wpAnyH_take (i := 3) (v := ?_) rfl (by kernel_rfl) (by kernel_rfl) (by kernel_rfl) (fun _ _ _ h => h) (Or.inl ⟨by rfl, ?_⟩) (by assumption) ?_; rotate_left; (focus (intro wS hSw; (try dsimp only at hSw); go_simp <;> with_reducible rfl)); (try simp only [Act.put, List.getElem_toArray, List.getElem_cons_succ, List.getElem_cons_zero, List.setIfInBounds_toArray, List.set_cons_zero, List.set_cons_succ])
        refine wpAnyH_take (i := 5) (v := ?_) rfl (by kernel_rfl) (by kernel_rfl) (by kernel_rfl) (fun _ _ _ h => h) (Or.inl ⟨by rfl, ?_⟩) (by assumption) ?_; rotate_left; (focus (intro wS hSw; (try dsimp only at hSw); go_simp <;> with_reducible rfl)); (try simp only [Act.put, List.getElem_toArray, List.getElem_cons_succ, List.getElem_cons_zero, List.setIfInBounds_toArray, List.set_cons_zero, List.set_cons_succ])
        refine wpAnyH_take (i := 6) (v := ?_) rfl (by kernel_rfl) (by kernel_rfl) (by kernel_rfl) (fun _ _ _ h => h) (Or.inl ⟨by rfl, ?_⟩) (by assumption) ?_; rotate_left; (focus (intro wS hSw; (try dsimp only at hSw); go_simp <;> with_reducible rfl)); (try simp only [Act.put, List.getElem_toArray, List.getElem_cons_succ, List.getElem_cons_zero, List.setIfInBounds_toArray, List.set_cons_zero, List.set_cons_succ])
        refine wpAnyH_ready (rs := [4]) (by kernel_rfl) (by simp) ?_; refine AllReadyH.cons rfl (fun K hK => ?_) AllReadyH.nil; go_simp; (go_at_call 173; refine (Hwd.homewardOf_any _ W H base n f M N _ _ _ X P HM.out HMN.out.1 HMN.out.2 (HX.out.grown HBD.out.grown) ⟨_, _, _, rfl⟩ (HP.out.grown HBD.out.grown)).mono ?_; rintro e w6 ⟨wv, rfl, hwv, hg⟩; rw [← HS0.out]; have HB6 := Lib.hid (HBD.out.on hg); have HWV := Lib.hid hwv; clear hg hwv)
        refine hK.out _ _ ?_ (fun hHeld => ?_)
        · exact HB6.out.cells
        clear hK K
        (try simp only [Act.put, List.getElem_toArray, List.getElem_cons_succ, List.getElem_cons_zero, List.setIfInBounds_toArray, List.set_cons_zero, List.set_cons_succ])
        refine wpAnyH_ready (rs := [7]) (by kernel_rfl) (by simp) ?_; refine AllReadyH.cons rfl (fun K hK => ?_) AllReadyH.nil; go_simp; (go_at_call 174; refine (leftC_any _ base n f wv _ _ _ L D S0 HS0.out HRU.out HDU.out HPU.out HMN.out.1 HMN.out.2 (HC.out.grown HB6.out.grown) (HD.out.grown HB6.out.grown) HWV.out ⟨_, _, _, rfl⟩).mono ?_; rintro e w7 ⟨rfl, hg⟩; have HB7 := Lib.hid (HB6.out.on hg); clear hg)
        refine hK.out _ _ ?_ (fun hHeld => ?_)
        · exact HB7.out.cells
        clear hK K
        (try simp only [Act.put, List.getElem_toArray, List.getElem_cons_succ, List.getElem_cons_zero, List.setIfInBounds_toArray, List.set_cons_zero, List.set_cons_succ])
        refine wpAnyH_take (i := 8) (v := ?_) rfl (by kernel_rfl) (by kernel_rfl) (by kernel_rfl) (fun _ _ _ h => h) (Or.inl ⟨by rfl, ?_⟩) (by assumption) ?_; rotate_left; (focus (intro wS hSw; (try dsimp only at hSw); go_simp <;> with_reducible rfl)); (try simp only [Act.put, List.getElem_toArray, List.getElem_cons_succ, List.getElem_cons_zero, List.setIfInBounds_toArray, List.set_cons_zero, List.set_cons_succ])
        refine wpAnyH_done (by kernel_rfl) ?_ _
        (try simp only [Act.put, List.getElem_toArray, List.getElem_cons_succ, List.getElem_cons_zero, List.setIfInBounds_toArray, List.set_cons_zero, List.set_cons_succ])
        go_wp2
        go_ret
        exact ⟨rfl, HB7.out.grown⟩
set_option maxRecDepth 100000 in
set_option maxHeartbeats 1000000 in
theorem sCan_any (w : World) (W H base m rn n f : Int) (xv dv cv pv : Value) (X : List Int) (D : List (Int × Int)) (L : List Mem) (P : List Bool) (hm : (Lit.int .i64 m).wf = true) (hrn : (Lit.int .i64 rn).wf = true) (hf : (Lit.int .i64 f).wf = true)
    (hx : Sees .i64 w xv X) (hd : SeesG encP w dv D) (hc : SeesG encM w cv L) (hp : SeesG encB w pv P) :
    Calls Tryz.prog 65 #[.agg #[.int .i64 W, .int .i64 H, xv], .int .i64 base, .agg #[.int .i64 m, .int .i64 rn], dv, .agg #[.int .i64 n, .int .i64 f, cv, pv]] w fun e w' => e = .returned (.bool (decide (0 ≤ left W H X base m rn D n f L P))) ∧ w.grownBy w' none := by
  obtain ⟨xa, xn, xc, rfl, HXN⟩ := hx.shape
  obtain ⟨da, dn, dc, rfl, HDN⟩ := hd.shape
  obtain ⟨ca, cn, cc, rfl, HCN⟩ := hc.shape
  obtain ⟨pa, pn, pc, rfl, HPN⟩ := hp.shape
  have HB0 := Lib.hid (H0.start (w := w) (W := W) (H := H) (m := m) (rn := rn) (n := n) (f := f) (xv := .slice xa xn xc) (cv := .slice ca cn cc) (pv := .slice pa pn pc))
  have hcall := sWorst_any _ W H base m rn n f _ _ _ _ X D L P hm hrn hf (hx.grown HB0.out.grown) (hd.grown HB0.out.grown) (hc.grown HB0.out.grown) (hp.grown HB0.out.grown)
  have HCALL := Lib.hid hcall
  clear hx hd hc hp hm hrn hf hcall
  obtain ⟨⟨a0, a1, a2⟩, ⟨b0, b1⟩, c0, c1, c2, c3⟩ := HB0.out.cells
  obtain ⟨z, hz⟩ : ∃ z, z = left W H X base m rn D n f L P := ⟨_, rfl⟩
  rw [← hz] at HCALL ⊢
  clear hz
  go_enter Tryz.func65, Tryz.ntmps65
  go_wp2_with fail
  refine HCALL.out.mono ?_
  rintro e w2 ⟨rfl, hg⟩
  have HG := Lib.hid (grownN_trans HB0.out.grown hg)
  clear hg
  by_cases hz : 0 ≤ z
  · go_wp2
    go_ret
    exact ⟨by simp [hz], HG.out⟩
  · go_wp2
    go_ret
    exact ⟨by simp [hz], HG.out⟩
set_option maxRecDepth 100000 in
set_option maxHeartbeats 1000000 in
theorem iCan_any (w : World) (W H base m rn n f : Int) (xv dv cv pv : Value) (X : List Int) (D : List (Int × Int)) (L : List Mem) (P : List Bool) (hm : (Lit.int .i64 m).wf = true) (hrn : (Lit.int .i64 rn).wf = true)
    (hx : Sees .i64 w xv X) (hd : SeesG encP w dv D) (hc : SeesG encM w cv L) (hp : SeesG encB w pv P) :
    Calls Tryz.prog 67 #[.agg #[.int .i64 W, .int .i64 H, xv], .int .i64 base, .agg #[.int .i64 m, .int .i64 rn], dv, .agg #[.int .i64 n, .int .i64 f, cv, pv]] w fun e w' => e = .returned (.bool (decide (0 ≤ left W H X base m rn D n f L P))) ∧ w.grownBy w' none := by
  obtain ⟨xa, xn, xc, rfl, HXN⟩ := hx.shape
  obtain ⟨da, dn, dc, rfl, HDN⟩ := hd.shape
  obtain ⟨ca, cn, cc, rfl, HCN⟩ := hc.shape
  obtain ⟨pa, pn, pc, rfl, HPN⟩ := hp.shape
  have HB0 := Lib.hid (H0.start (w := w) (W := W) (H := H) (m := m) (rn := rn) (n := n) (f := f) (xv := .slice xa xn xc) (cv := .slice ca cn cc) (pv := .slice pa pn pc))
  have hcall := iLeft_any _ W H base m rn n f _ _ _ _ X D L P hm hrn (hx.grown HB0.out.grown) (hd.grown HB0.out.grown) (hc.grown HB0.out.grown) (hp.grown HB0.out.grown)
  have HCALL := Lib.hid hcall
  clear hx hd hc hp hm hrn hcall
  obtain ⟨⟨a0, a1, a2⟩, ⟨b0, b1⟩, c0, c1, c2, c3⟩ := HB0.out.cells
  obtain ⟨z, hz⟩ : ∃ z, z = left W H X base m rn D n f L P := ⟨_, rfl⟩
  rw [← hz] at HCALL ⊢
  clear hz
  go_enter Tryz.func67, Tryz.ntmps67
  go_wp2_with fail
  refine HCALL.out.mono ?_
  rintro e w2 ⟨rfl, hg⟩
  have HG := Lib.hid (grownN_trans HB0.out.grown hg)
  clear hg
  by_cases hz : 0 ≤ z
  · go_wp2
    go_ret
    exact ⟨by simp [hz], HG.out⟩
  · go_wp2
    go_ret
    exact ⟨by simp [hz], HG.out⟩
end Go.Proofs.YtonalkamfgpokaaGreat.Lah

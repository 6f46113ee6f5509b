/- Contracts of PlanFood, of the program and of its model. -/
import Derived.Test.YtbpiojnehomljaaG36
import Derived.Test.YtbpiojnehomljaaG11
import Derived.Test.YtbpiojnehomljaaG10
import Derived.Test.YtbpiojnehomljaaG37
namespace Go.Proofs.Ytbpiojnehomljaa.Pln
open Go.RowKit Kit Rw Rg Ld Wf App Stm Crw

noncomputable def planFood (W H : Int) (X : List Int) (frm : Int) (L : List G2) (m n : Int) (C : List Mem) (P : List Bool) : Int :=
  if areCrew C = true ∧ 0 ≤ worstOf m n P (planDays W H X frm L) then needOf C * worstOf m n P (planDays W H X frm L) else -1
theorem worst_neg {m n k : Int} {L : List Bool} (h : k < 0) : worstOf m n L k = -1 := worstOf_no (fun e => by omega)
theorem food_bd (C : List Mem) (m n k : Int) (P : List Bool) (h : k ≤ 940) : -1 * 800 ≤ needOf C * worstOf m n P k ∧ needOf C * worstOf m n P k ≤ 800 * 5000 := by
  obtain ⟨h1, h2⟩ := needOf_bound C
  have h3 := worstOf_low m n k P
  have h4 : worstOf m n P k ≤ 5000 := by
    by_cases hk : k ≤ 201
    · exact worstOf_high hk
    · rw [worstOf_no (fun e => by omega)]; omega
  generalize needOf C = a at *
  generalize worstOf m n P k = b at *
  constructor
  · calc -1 * 800 ≤ -1 * a := by omega
      _ ≤ b * a := Int.mul_le_mul_of_nonneg_right h3 h1
      _ = a * b := Int.mul_comm _ _
  · calc a * b ≤ a * 5000 := Int.mul_le_mul_of_nonneg_left h4 h1
      _ ≤ 800 * 5000 := by omega

set_option maxRecDepth 20000 in
set_option maxHeartbeats 4000000 in
theorem iPlanFood_any (w : World) (W H frm m n at0 food : Int) (x v c p : Value) (X : List Int) (L : List G2) (C : List Mem) (P : List Bool) (hf : (Lit.int .i64 frm).wf = true) (hm : (Lit.int .i64 m).wf = true) (hn : (Lit.int .i64 n).wf = true) (hx : Sees .i64 w x X) (hv : SeesG encP w v L) (hc : SeesG encM w c C) (hp : SeesG encB w p P) :
    Calls Try.prog 29 #[.agg #[.int .i64 W, .int .i64 H, x], .int .i64 frm, v, .agg #[.int .i64 m, .int .i64 n], .agg #[.int .i64 at0, .int .i64 food, c, p]] w fun e w' => e = .returned (.int .i64 (planFood W H X frm L m n C P)) ∧ w.grownBy w' none := by
  obtain ⟨xa, xn, xc, rfl, HXN⟩ := hx.shape
  obtain ⟨va, vn, vc, rfl, HVN⟩ := hv.shape
  obtain ⟨ca, cn, cc, rfl, HCN⟩ := hc.shape
  obtain ⟨pa, pn, pc, rfl, HPN⟩ := hp.shape
  have g1 := World.grownBy_alloc w (.cells #[.int .i64 W, .int .i64 H, .slice xa xn xc] 29 (0, 0)) (none : Option Nat)
  have g2 := World.grownBy_alloc (w.alloc (.cells #[.int .i64 W, .int .i64 H, .slice xa xn xc] 29 (0, 0))) (.cells #[.int .i64 m, .int .i64 n] 49 (0, 0)) (none : Option Nat)
  have g3 := World.grownBy_alloc ((w.alloc (.cells #[.int .i64 W, .int .i64 H, .slice xa xn xc] 29 (0, 0))).alloc (.cells #[.int .i64 m, .int .i64 n] 49 (0, 0))) (.cells #[.int .i64 at0, .int .i64 food, .slice ca cn cc, .slice pa pn pc] 53 (0, 0)) (none : Option Nat)
  have b1 := ((box_new w #[.int .i64 W, .int .i64 H, .slice xa xn xc] 29).grown g2).grown g3
  have b2 := (box_new (w.alloc (.cells #[.int .i64 W, .int .i64 H, .slice xa xn xc] 29 (0, 0))) #[.int .i64 m, .int .i64 n] 49).grown g3
  have b3 := box_new ((w.alloc (.cells #[.int .i64 W, .int .i64 H, .slice xa xn xc] 29 (0, 0))).alloc (.cells #[.int .i64 m, .int .i64 n] 49 (0, 0))) #[.int .i64 at0, .int .i64 food, .slice ca cn cc, .slice pa pn pc] 53
  simp only [World.size_alloc] at b2 b3
  have HG3 := Lib.hid (grownN_trans (grownN_trans g1 g2) g3)
  have HB1 := Lib.hid b1
  have HB2 := Lib.hid b2
  have HB3 := Lib.hid b3
  have HX := Lib.hid (hx.grown HG3.out)
  have HV := Lib.hid (hv.grown HG3.out)
  have HC := Lib.hid (hc.grown HG3.out)
  have HP := Lib.hid (hp.grown HG3.out)
  have HF := Lib.hid hf
  have HM := Lib.hid hm
  have HN := Lib.hid hn
  have HPB := Lib.hid (days_bd W H X frm L)
  clear hf hm hn hx hv hc hp g1 g2 g3 b1 b2 b3
  go_enter Try.func29, Try.ntmps29
  go_wp2_with fail
  generalize ((w.alloc (.cells #[.int .i64 W, .int .i64 H, .slice xa xn xc] 29 (0, 0))).alloc (.cells #[.int .i64 m, .int .i64 n] 49 (0, 0))).alloc (.cells #[.int .i64 at0, .int .i64 food, .slice ca cn cc, .slice pa pn pc] 53 (0, 0)) = W3 at *
  have HPD := Lib.hid fun w' (hg : W3.grownBy w' none) => iPlanDays_any w' W H frm _ _ X L HF.out (HX.out.grown hg) (HV.out.grown hg)
  have HWD := Lib.hid fun w' (hg : W3.grownBy w' none) => StI.iWorst_any w' m n (planDays W H X frm L) HM.out HN.out _ P (HP.out.grown hg)
  have HAC := Lib.hid fun w' (hg : W3.grownBy w' none) => CrI.iAreCrew_any w' _ C (HC.out.grown hg)
  have HND := Lib.hid fun w' (hg : W3.grownBy w' none) => CrI.iNeedOf_any w' _ C (HC.out.grown hg)
  have HS : Hid (∀ w', W3.grownBy w' none → (w'.cell? ⟨w.heap.size, 0, none⟩ = some (.int .i64 W) ∧ w'.cell? ⟨w.heap.size, 1, none⟩ = some (.int .i64 H) ∧ w'.cell? ⟨w.heap.size, 2, none⟩ = some (.slice xa xn xc)) ∧ (w'.cell? ⟨w.heap.size + 1, 0, none⟩ = some (.int .i64 m) ∧ w'.cell? ⟨w.heap.size + 1, 1, none⟩ = some (.int .i64 n)) ∧ w'.cell? ⟨w.heap.size + 1 + 1, 2, none⟩ = some (.slice ca cn cc) ∧ w'.cell? ⟨w.heap.size + 1 + 1, 3, none⟩ = some (.slice pa pn pc)) := fun w' hg => ⟨⟨(HB1.out.grown hg).cell 0, (HB1.out.grown hg).cell 1, (HB1.out.grown hg).cell 2⟩, ⟨(HB2.out.grown hg).cell 0, (HB2.out.grown hg).cell 1⟩, (HB3.out.grown hg).cell 2, (HB3.out.grown hg).cell 3⟩
  obtain ⟨D, hD⟩ : ∃ D, D = planDays W H X frm L := ⟨_, rfl⟩
  have HR : Hid (planFood W H X frm L m n C P = if areCrew C = true ∧ 0 ≤ worstOf m n P D then needOf C * worstOf m n P D else -1) := by show _ = _; rw [hD]; rfl
  rw [← hD] at HPD HWD HPB
  clear hD
  have HFB := Lib.hid (food_bd C m n D P (by have := HPB.out; omega))
  have hmul : IntKind.i64.wrap (needOf C * worstOf m n P D) = needOf C * worstOf m n P D := IntWalk.i64_in _ (by have := HFB.out; omega)
  have HQ0 := Lib.hid (grown_drew (World.grownBy.refl W3 none))
  obtain ⟨E, hE⟩ : ∃ E, E = worstOf m n P D := ⟨_, rfl⟩
  rw [← hE] at HWD HR hmul
  clear hE
  go_region_held_law (fun w' => (w'.cell? ⟨w.heap.size, 0, none⟩ = some (.int .i64 W) ∧ w'.cell? ⟨w.heap.size, 1, none⟩ = some (.int .i64 H) ∧ w'.cell? ⟨w.heap.size, 2, none⟩ = some (.slice xa xn xc)) ∧ (w'.cell? ⟨w.heap.size + 1, 0, none⟩ = some (.int .i64 m) ∧ w'.cell? ⟨w.heap.size + 1, 1, none⟩ = some (.int .i64 n)) ∧ w'.cell? ⟨w.heap.size + 1 + 1, 2, none⟩ = some (.slice ca cn cc) ∧ w'.cell? ⟨w.heap.size + 1 + 1, 3, none⟩ = some (.slice pa pn pc)) (first | exact HS.out _ HQ0.out | exact HS.out _ HQ1.out | exact HS.out _ HQ2.out) (first | (go_at_call 24; refine (HPD.out _ HQ0.out).mono ?_; rintro e w5 ⟨rfl, hg5⟩; have HQ1 := Lib.hid (grownN_trans HQ0.out hg5); clear hg5) | (go_at_call 61; refine (HWD.out _ HQ1.out).mono ?_; rintro e w6 ⟨rfl, hg6⟩; have HQ2 := Lib.hid (grownN_trans HQ1.out hg6); clear hg6))
  obtain ⟨e0, e1, e2, e3⟩ := HS.out _ HQ2.out
  cases hA : areCrew C
  · have HR2 : Hid (planFood W H X frm L m n C P = -1) := by show _ = _; rw [HR.out, if_neg (fun h => by rw [hA] at h; exact Bool.noConfusion h.1)]
    rw [hA] at HAC
    clear hA
    go_wp2_with fail
    refine (HAC.out _ HQ2.out).mono ?_
    rintro e w7 ⟨rfl, hg⟩
    have HQ3 := Lib.hid (grownN_trans HQ2.out hg)
    clear hg
    go_wp2
    go_ret
    exact ⟨(congrArg (fun z : Int => Ending.returned (Value.int .i64 z)) HR2.out).symm, grownN_trans HG3.out HQ3.out⟩
  · rw [hA] at HAC
    by_cases h0 : E < 0
    · have HR2 : Hid (planFood W H X frm L m n C P = -1) := by show _ = _; rw [HR.out, if_neg (fun h => by omega)]
      clear hA
      go_wp2_with fail
      refine (HAC.out _ HQ2.out).mono ?_
      rintro e w7 ⟨rfl, hg⟩
      have HQ3 := Lib.hid (grownN_trans HQ2.out hg)
      clear hg
      go_wp2
      go_ret
      exact ⟨(congrArg (fun z : Int => Ending.returned (Value.int .i64 z)) HR2.out).symm, grownN_trans HG3.out HQ3.out⟩
    · have HR2 : Hid (planFood W H X frm L m n C P = needOf C * E) := by show _ = _; rw [HR.out, if_pos ⟨hA, by omega⟩]
      clear hA
      go_wp2_with fail
      refine (HAC.out _ HQ2.out).mono ?_
      rintro e w7 ⟨rfl, hg⟩
      have HQ3 := Lib.hid (grownN_trans HQ2.out hg)
      obtain ⟨k0, k1, k2, k3⟩ := HS.out _ HQ3.out
      clear hg e0 e1 e2 e3
      go_wp2_with fail
      refine (HND.out _ HQ3.out).mono ?_
      rintro e w8 ⟨rfl, hg⟩
      have HQ4 := Lib.hid (grownN_trans HQ3.out hg)
      clear hg
      go_wp2
      go_ret
      exact ⟨(congrArg (fun z : Int => Ending.returned (Value.int .i64 z)) HR2.out).symm, grownN_trans HG3.out HQ4.out⟩

set_option maxRecDepth 20000 in
set_option maxHeartbeats 4000000 in
theorem sPlanFood_any (w : World) (W H frm m n at0 food : Int) (x v c p : Value) (X : List Int) (L : List G2) (C : List Mem) (P : List Bool) (hf : (Lit.int .i64 frm).wf = true) (hm : (Lit.int .i64 m).wf = true) (hn : (Lit.int .i64 n).wf = true) (hx : Sees .i64 w x X) (hv : SeesG encP w v L) (hc : SeesG encM w c C) (hp : SeesG encB w p P) :
    Calls Try.prog 26 #[.agg #[.int .i64 W, .int .i64 H, x], .int .i64 frm, v, .agg #[.int .i64 m, .int .i64 n], .agg #[.int .i64 at0, .int .i64 food, c, p]] w fun e w' => e = .returned (.int .i64 (planFood W H X frm L m n C P)) ∧ w.grownBy w' none := by
  obtain ⟨xa, xn, xc, rfl, HXN⟩ := hx.shape
  obtain ⟨va, vn, vc, rfl, HVN⟩ := hv.shape
  obtain ⟨ca, cn, cc, rfl, HCN⟩ := hc.shape
  obtain ⟨pa, pn, pc, rfl, HPN⟩ := hp.shape
  have g1 := World.grownBy_alloc w (.cells #[.int .i64 W, .int .i64 H, .slice xa xn xc] 29 (0, 0)) (none : Option Nat)
  have g2 := World.grownBy_alloc (w.alloc (.cells #[.int .i64 W, .int .i64 H, .slice xa xn xc] 29 (0, 0))) (.cells #[.int .i64 m, .int .i64 n] 49 (0, 0)) (none : Option Nat)
  have g3 := World.grownBy_alloc ((w.alloc (.cells #[.int .i64 W, .int .i64 H, .slice xa xn xc] 29 (0, 0))).alloc (.cells #[.int .i64 m, .int .i64 n] 49 (0, 0))) (.cells #[.int .i64 at0, .int .i64 food, .slice ca cn cc, .slice pa pn pc] 53 (0, 0)) (none : Option Nat)
  have b1 := ((box_new w #[.int .i64 W, .int .i64 H, .slice xa xn xc] 29).grown g2).grown g3
  have b2 := (box_new (w.alloc (.cells #[.int .i64 W, .int .i64 H, .slice xa xn xc] 29 (0, 0))) #[.int .i64 m, .int .i64 n] 49).grown g3
  have b3 := box_new ((w.alloc (.cells #[.int .i64 W, .int .i64 H, .slice xa xn xc] 29 (0, 0))).alloc (.cells #[.int .i64 m, .int .i64 n] 49 (0, 0))) #[.int .i64 at0, .int .i64 food, .slice ca cn cc, .slice pa pn pc] 53
  simp only [World.size_alloc] at b2 b3
  have HG3 := Lib.hid (grownN_trans (grownN_trans g1 g2) g3)
  have HB1 := Lib.hid b1
  have HB2 := Lib.hid b2
  have HB3 := Lib.hid b3
  have HX := Lib.hid (hx.grown HG3.out)
  have HV := Lib.hid (hv.grown HG3.out)
  have HC := Lib.hid (hc.grown HG3.out)
  have HP := Lib.hid (hp.grown HG3.out)
  have HF := Lib.hid hf
  have HM := Lib.hid hm
  have HN := Lib.hid hn
  have HPB := Lib.hid (days_bd W H X frm L)
  clear hf hm hn hx hv hc hp g1 g2 g3 b1 b2 b3
  go_enter Try.func26, Try.ntmps26
  go_wp2_with fail
  generalize ((w.alloc (.cells #[.int .i64 W, .int .i64 H, .slice xa xn xc] 29 (0, 0))).alloc (.cells #[.int .i64 m, .int .i64 n] 49 (0, 0))).alloc (.cells #[.int .i64 at0, .int .i64 food, .slice ca cn cc, .slice pa pn pc] 53 (0, 0)) = W3 at *
  have HPD := Lib.hid fun w' (hg : W3.grownBy w' none) => sPlanDays_any w' W H frm _ _ X L HF.out (HX.out.grown hg) (HV.out.grown hg)
  have HWD := Lib.hid fun w' (hg : W3.grownBy w' none) => StI.sWorst_any w' m n (planDays W H X frm L) HM.out HN.out _ P (HP.out.grown hg)
  have HAC := Lib.hid fun w' (hg : W3.grownBy w' none) => CrS.sAreCrew_any w' _ C (HC.out.grown hg)
  have HND := Lib.hid fun w' (hg : W3.grownBy w' none) => CrS.sNeedOf_any w' _ C (HC.out.grown hg)
  have HS : Hid (∀ w', W3.grownBy w' none → (w'.cell? ⟨w.heap.size, 0, none⟩ = some (.int .i64 W) ∧ w'.cell? ⟨w.heap.size, 1, none⟩ = some (.int .i64 H) ∧ w'.cell? ⟨w.heap.size, 2, none⟩ = some (.slice xa xn xc)) ∧ (w'.cell? ⟨w.heap.size + 1, 0, none⟩ = some (.int .i64 m) ∧ w'.cell? ⟨w.heap.size + 1, 1, none⟩ = some (.int .i64 n)) ∧ w'.cell? ⟨w.heap.size + 1 + 1, 2, none⟩ = some (.slice ca cn cc) ∧ w'.cell? ⟨w.heap.size + 1 + 1, 3, none⟩ = some (.slice pa pn pc)) := fun w' hg => ⟨⟨(HB1.out.grown hg).cell 0, (HB1.out.grown hg).cell 1, (HB1.out.grown hg).cell 2⟩, ⟨(HB2.out.grown hg).cell 0, (HB2.out.grown hg).cell 1⟩, (HB3.out.grown hg).cell 2, (HB3.out.grown hg).cell 3⟩
  obtain ⟨D, hD⟩ : ∃ D, D = planDays W H X frm L := ⟨_, rfl⟩
  have HR : Hid (planFood W H X frm L m n C P = if areCrew C = true ∧ 0 ≤ worstOf m n P D then needOf C * worstOf m n P D else -1) := by show _ = _; rw [hD]; rfl
  rw [← hD] at HPD HWD HPB
  clear hD
  have HFB := Lib.hid (food_bd C m n D P (by have := HPB.out; omega))
  have hmul : IntKind.i64.wrap (needOf C * worstOf m n P D) = needOf C * worstOf m n P D := IntWalk.i64_in _ (by have := HFB.out; omega)
  obtain ⟨e0, e1, e2, e3⟩ := HS.out _ (World.grownBy.refl W3 none)
  obtain ⟨e00, e01, e02⟩ := e0
  obtain ⟨e10, e11⟩ := e1
  go_wp2_with fail
  refine (HPD.out _ (World.grownBy.refl W3 none)).mono ?_
  rintro e w5 ⟨rfl, hg⟩
  have HQ1 := Lib.hid hg
  clear hg e00 e01 e02 e10 e11 e2 e3
  by_cases hD0 : D < 0
  · have HR2 : Hid (planFood W H X frm L m n C P = -1) := by
      show _ = _
      rw [HR.out, worst_neg hD0, if_neg (fun h => by omega)]
    go_wp2
    go_ret
    exact ⟨(congrArg (fun z : Int => Ending.returned (Value.int .i64 z)) HR2.out).symm, grownN_trans HG3.out HQ1.out⟩
  obtain ⟨E, hE⟩ : ∃ E, E = worstOf m n P D := ⟨_, rfl⟩
  rw [← hE] at HWD HR hmul
  clear hE
  obtain ⟨e0, e1, e2, e3⟩ := HS.out _ HQ1.out
  obtain ⟨e10, e11⟩ := e1
  cases hA : areCrew C
  · have HR2 : Hid (planFood W H X frm L m n C P = -1) := by show _ = _; rw [HR.out, if_neg (fun h => by rw [hA] at h; exact Bool.noConfusion h.1)]
    rw [hA] at HAC
    clear hA
    go_wp2_with fail
    refine (HAC.out _ HQ1.out).mono ?_
    rintro e w7 ⟨rfl, hg⟩
    have HQ3 := Lib.hid (grownN_trans HQ1.out hg)
    clear hg
    go_wp2
    go_ret
    exact ⟨(congrArg (fun z : Int => Ending.returned (Value.int .i64 z)) HR2.out).symm, grownN_trans HG3.out HQ3.out⟩
  · rw [hA] at HAC
    have HAA := Lib.hid hA
    clear hA
    go_wp2_with fail
    refine (HAC.out _ HQ1.out).mono ?_
    rintro e w6 ⟨rfl, hg⟩
    have HQ2 := Lib.hid (grownN_trans HQ1.out hg)
    clear hg e0 e10 e11 e2 e3
    obtain ⟨e0, e1, e2, e3⟩ := HS.out _ HQ2.out
    obtain ⟨e10, e11⟩ := e1
    go_wp2_with fail
    refine (HWD.out _ HQ2.out).mono ?_
    rintro e w7 ⟨rfl, hg⟩
    have HQ3 := Lib.hid (grownN_trans HQ2.out hg)
    clear hg e0 e10 e11 e2 e3
    by_cases h0 : E < 0
    · have HR2 : Hid (planFood W H X frm L m n C P = -1) := by show _ = _; rw [HR.out, if_neg (fun h => by omega)]
      go_wp2
      go_ret
      exact ⟨(congrArg (fun z : Int => Ending.returned (Value.int .i64 z)) HR2.out).symm, grownN_trans HG3.out HQ3.out⟩
    · have HR2 : Hid (planFood W H X frm L m n C P = needOf C * E) := by show _ = _; rw [HR.out, if_pos ⟨HAA.out, by omega⟩]
      obtain ⟨e0, e1, e2, e3⟩ := HS.out _ HQ3.out
      go_wp2_with fail
      refine (HND.out _ HQ3.out).mono ?_
      rintro e w8 ⟨rfl, hg⟩
      have HQ4 := Lib.hid (grownN_trans HQ3.out hg)
      clear hg
      go_wp2
      go_ret
      exact ⟨(congrArg (fun z : Int => Ending.returned (Value.int .i64 z)) HR2.out).symm, grownN_trans HG3.out HQ4.out⟩
end Go.Proofs.Ytbpiojnehomljaa.Pln

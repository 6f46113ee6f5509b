/- Contracts of whether a party may set out: the program's, with its function value. -/
import Derived.Test.YtonalkamfgpokaaGreatG47
namespace Go.Proofs.YtonalkamfgpokaaGreat.Day
open Go.RowKit Kit Rw Rg Four PartyL Pc Pd Pe Stm Crw Hom HomS

noncomputable def both (W H : Int) (X : List Int) (base m rn : Int) (D : List (Int × Int)) (n f : Int) (L : List Mem) (P : List Bool) (gx : Int) : Bool :=
  safe W H X base m rn D f L P gx false && (!(mayStorm m rn P) || safe W H X base m rn D f L P n true)
noncomputable def setOut (W H : Int) (X : List Int) (base m rn : Int) (D : List (Int × Int)) (n f : Int) (L : List Mem) (P : List Bool) (gx : Int) : Bool :=
  decide (0 ≤ left W H X base m rn D n f L P) && both W H X base m rn D n f L P gx

/-- What the function value reads. -/
structure Caps (w : World) (A B C E : Nat) (W H base m rn : Int) (xv dv : Value) : Prop where
  land : Box w A #[.int .i64 W, .int .i64 H, xv] 37
  base : w.cell? ⟨B, 0, none⟩ = some (.int .i64 base)
  rule : Box w C #[.int .i64 m, .int .i64 rn] 38
  deps : w.cell? ⟨E, 0, none⟩ = some dv
theorem Caps.on {w w' : World} {A B C E : Nat} {W H base m rn : Int} {xv dv : Value} (h : Caps w A B C E W H base m rn xv dv) (hg : w.grownBy w' none) : Caps w' A B C E W H base m rn xv dv :=
  ⟨h.land.grown hg, hg.cell h.base (by simp), h.rule.grown hg, hg.cell h.deps (by simp)⟩

set_option maxRecDepth 20000 in
set_option maxHeartbeats 2000000 in
theorem canret_any (w : World) (A B C E : Nat) (W H base m rn n f : Int) (xv dv cv pv : Value) (X : List Int) (D : List (Int × Int)) (L : List Mem) (P : List Bool) (hcap : Caps w A B C E W H base m rn xv dv) (hm : (Lit.int .i64 m).wf = true) (hrn : (Lit.int .i64 rn).wf = true)
    (hx : Sees .i64 w xv X) (hd : SeesG encP w dv D) (hc : SeesG encM w cv L) (hp : SeesG encB w pv P) :
    Calls Tryz.prog 176 #[.agg #[.int .i64 n, .int .i64 f, cv, pv], .pointer (some ⟨A, 0, none⟩), .pointer (some ⟨B, 0, none⟩), .pointer (some ⟨C, 0, none⟩), .pointer (some ⟨E, 0, none⟩)] w fun e w' => e = .returned (.bool (decide (0 ≤ left W H X base m rn D n f L P))) ∧ w.grownBy w' none := by
  obtain ⟨xa, xn, xc, rfl, HXN⟩ := hx.shape
  obtain ⟨da, dn, dc, rfl, HDN⟩ := hd.shape
  obtain ⟨ca, cn, cc, rfl, HCN⟩ := hc.shape
  obtain ⟨pa, pn, pc, rfl, HPN⟩ := hp.shape
  have g0 := World.grownBy_alloc w (.cells #[.int .i64 n, .int .i64 f, .slice ca cn cc, .slice pa pn pc] 42 (0, 0)) (none : Option Nat)
  have b0 := box_new w #[.int .i64 n, .int .i64 f, .slice ca cn cc, .slice pa pn pc] 42
  have hcall := Lah.iCan_any _ W H base m rn n f (.slice xa xn xc) (.slice da dn dc) (.slice ca cn cc) (.slice pa pn pc) X D L P hm hrn (hx.grown g0) (hd.grown g0) (hc.grown g0) (hp.grown g0)
  have hcp := hcap.on g0
  obtain ⟨a0, a1, a2⟩ := hcp.land.three
  have b1 := hcp.base
  have r0 := hcp.rule.cell 0
  have r1 := hcp.rule.cell 1
  have d0 := hcp.deps
  obtain ⟨c0, c1, c2, c3⟩ := four b0
  have HG := Lib.hid g0
  obtain ⟨z, hz⟩ : ∃ z, z = decide (0 ≤ left W H X base m rn D n f L P) := ⟨_, rfl⟩
  rw [← hz] at hcall ⊢
  have HCALL := Lib.hid hcall
  clear hx hd hc hp hm hrn hcap g0 b0 hcall hcp hz
  go_enter Tryz.func176, Tryz.ntmps176
  go_wp2_with fail
  refine HCALL.out.mono ?_
  rintro e w2 ⟨rfl, hg⟩
  have HG2 := Lib.hid (grownN_trans HG.out hg)
  clear hg
  go_wp2
  go_ret
  exact ⟨rfl, HG2.out⟩

set_option maxRecDepth 20000 in
set_option maxHeartbeats 4000000 in
theorem both_any (w : World) (A B C E : Nat) (W H base m rn n f gx : Int) (xv dv cv pv : Value) (X : List Int) (D : List (Int × Int)) (L : List Mem) (P : List Bool) (hcap : Caps w A B C E W H base m rn xv dv) (hm : (Lit.int .i64 m).wf = true) (hrn : (Lit.int .i64 rn).wf = true) (hf : (Lit.int .i64 f).wf = true)
    (hx : Sees .i64 w xv X) (hd : SeesG encP w dv D) (hc : SeesG encM w cv L) (hp : SeesG encB w pv P) (hL : L.length ≤ 1000000000) (hP : P.length ≤ 100000000) :
    Calls Tryz.prog 177 #[.agg #[.int .i64 m, .int .i64 rn], .agg #[.int .i64 n, .int .i64 f, cv, pv], .int .i64 gx, .func (.func 176) #[] #[.pointer (some ⟨A, 0, none⟩), .pointer (some ⟨B, 0, none⟩), .pointer (some ⟨C, 0, none⟩), .pointer (some ⟨E, 0, none⟩)]] w fun e w' =>
      e = .returned (.bool (both W H X base m rn D n f L P gx)) ∧ w.grownBy w' none := by
  obtain ⟨ca, cn, cc, rfl, HCN⟩ := hc.shape
  obtain ⟨pa, pn, pc, rfl, HPN⟩ := hp.shape
  have g0 := World.grownBy_alloc w (.cells #[.int .i64 m, .int .i64 rn] 38 (0, 0)) (none : Option Nat)
  have g1 := World.grownBy_alloc (w.alloc (.cells #[.int .i64 m, .int .i64 rn] 38 (0, 0))) (.cells #[.int .i64 n, .int .i64 f, .slice ca cn cc, .slice pa pn pc] 42 (0, 0)) (none : Option Nat)
  have b0 := (box_new w #[.int .i64 m, .int .i64 rn] 38).grown g1
  have b1 := box_new (w.alloc (.cells #[.int .i64 m, .int .i64 rn] 38 (0, 0))) #[.int .i64 n, .int .i64 f, .slice ca cn cc, .slice pa pn pc] 42
  simp only [World.size_alloc] at b1
  have HG := Lib.hid (grownN_trans g0 g1)
  have B0 := Lib.hid b0
  have B1 := Lib.hid b1
  have HCAP := Lib.hid (hcap.on HG.out)
  have HX := Lib.hid (hx.grown HG.out)
  have HD := Lib.hid (hd.grown HG.out)
  have HC := Lib.hid (hc.grown HG.out)
  have HP := Lib.hid (hp.grown HG.out)
  have HM := Lib.hid (And.intro hm (And.intro hrn hf))
  have HLP := Lib.hid (And.intro hL hP)
  obtain ⟨c0, c1, c2, c3⟩ := four b1
  clear hx hd hc hp hm hrn hf hL hP g0 g1 b0 b1 hcap
  go_enter Tryz.func177, Tryz.ntmps177
  go_wp2_with fail
  generalize (w.alloc (.cells #[.int .i64 m, .int .i64 rn] 38 (0, 0))).alloc (.cells #[.int .i64 n, .int .i64 f, .slice ca cn cc, .slice pa pn pc] 42 (0, 0)) = W0 at *
  refine (pass_any W0 n f gx false _ _ L P HM.out.2.2 HC.out HP.out HLP.out.1 HLP.out.2).mono ?_
  rintro e w3 ⟨u, t, rfl, hu, ht, _, hg⟩
  obtain ⟨ua, un, uc, hu', HUN⟩ := hu.sees.shape
  subst hu'
  obtain ⟨ta, tn, tc, ht', HTN⟩ := ht.sees.shape
  subst ht'
  obtain ⟨d, hdE⟩ : ∃ d, d = dayN L f n gx := ⟨_, rfl⟩
  obtain ⟨g, hgE⟩ : ∃ g, g = eatF L f := ⟨_, rfl⟩
  obtain ⟨Q, hQE⟩ : ∃ Q, Q = dayP L f P false := ⟨_, rfl⟩
  rw [← hQE] at ht
  rw [← hdE, ← hgE]
  have gk := World.grownBy_alloc w3 (.cells #[.int .i64 d, .int .i64 g, .slice ua un uc, .slice ta tn tc] 42 (0, 0)) (none : Option Nat)
  have bk := box_new w3 #[.int .i64 d, .int .i64 g, .slice ua un uc, .slice ta tn tc] 42
  have HG3 := Lib.hid (grownN_trans hg gk)
  have HU := Lib.hid (hu.sees.grown gk)
  have HT := Lib.hid (ht.sees.grown gk)
  have HE := Lib.hid (And.intro hdE (And.intro hgE hQE))
  clear hu ht hg c0 c1 c2 c3 hdE hgE hQE gk
  cases hb : eatB L f
  · have HS : Hid (both W H X base m rn D n f L P gx = false) := by show _ = _; unfold both safe; rw [hb]; rfl
    clear hb
    go_wp2
    go_ret
    exact ⟨by rw [HS.out]; rfl, grownN_trans HG.out HG3.out⟩
  · have HB := Lib.hid hb
    obtain ⟨q, hq⟩ : ∃ q, q = decide (0 ≤ left W H X base m rn D d g L Q) := ⟨_, rfl⟩
    have hcan := fun w' hcap hx hd hc hp => canret_any w' A B C E W H base m rn d g xv dv (.slice ua un uc) (.slice ta tn tc) X D L Q hcap HM.out.1 HM.out.2.1 hx hd hc hp
    rw [← hq] at hcan
    have HCAN := Lib.hid hcan
    have HS1 : Hid (safe W H X base m rn D f L P gx false = q) := by
      show _ = _
      obtain ⟨h1, h2, h3⟩ := HE.out
      rw [hq, h1, h2, h3]; unfold safe dayN dayP; rw [hb]; rfl
    obtain ⟨k0, k1, k2, k3⟩ := four bk
    clear hb hcan hq bk
    go_wp2_with fail
    refine (HCAN.out _ (HCAP.out.on HG3.out) (HX.out.grown HG3.out) (HD.out.grown HG3.out) HU.out HT.out).mono ?_
    rintro e w5 ⟨rfl, hg⟩
    have HG5 := Lib.hid (grownN_trans HG3.out hg)
    clear hg k0 k1 k2 k3
    cases q
    · have HS : Hid (both W H X base m rn D n f L P gx = false) := by show _ = _; unfold both; rw [HS1.out]; rfl
      go_wp2
      go_ret
      exact ⟨by rw [HS.out]; rfl, grownN_trans HG.out HG5.out⟩
    · have r0 := (B0.out.grown HG5.out).cell 0
      have r1 := (B0.out.grown HG5.out).cell 1
      obtain ⟨c0, c1, c2, c3⟩ := four (B1.out.grown HG5.out)
      obtain ⟨y, hy⟩ : ∃ y, y = mayStorm m rn P := ⟨_, rfl⟩
      have hms := StI.iMayStorm_any w5 m rn HM.out.1 HM.out.2.1 (.slice pa pn pc) P (HP.out.grown HG5.out)
      rw [← hy] at hms
      have HMS := Lib.hid hms
      have HY := Lib.hid hy
      clear hms hy
      go_wp2_with fail
      refine HMS.out.mono ?_
      rintro e w6 ⟨rfl, hg⟩
      have HG6 := Lib.hid (grownN_trans HG5.out hg)
      clear hg r0 r1 c0 c1 c2 c3
      cases y
      · have HS : Hid (both W H X base m rn D n f L P gx = true) := by show _ = _; unfold both; rw [HS1.out, ← HY.out]; rfl
        go_wp2
        go_ret
        exact ⟨by rw [HS.out]; rfl, grownN_trans HG.out HG6.out⟩
      · have HS : Hid (both W H X base m rn D n f L P gx = safe W H X base m rn D f L P n true) := by show _ = _; unfold both; rw [HS1.out, ← HY.out]; rfl
        obtain ⟨c0, c1, c2, c3⟩ := four (B1.out.grown HG6.out)
        go_wp2_with fail
        refine (pass_any w6 n f n true _ _ L P HM.out.2.2 (HC.out.grown HG6.out) (HP.out.grown HG6.out) HLP.out.1 HLP.out.2).mono ?_
        rintro e w7 ⟨u2, t2, rfl, hu, ht, _, hg⟩
        obtain ⟨va, vn, vc, hu', HVN⟩ := hu.sees.shape
        subst hu'
        obtain ⟨sa, sn, sc, ht', HSN⟩ := ht.sees.shape
        subst ht'
        rw [HB.out, show dayN L f n n = n by unfold dayN; rw [HB.out]; rfl, ← HE.out.2.1]
        rw [show dayP L f P true = addDay P true by unfold dayP; rw [HB.out]; rfl] at ht
        have gk := World.grownBy_alloc w7 (.cells #[.int .i64 n, .int .i64 g, .slice va vn vc, .slice sa sn sc] 42 (0, 0)) (none : Option Nat)
        have bk := box_new w7 #[.int .i64 n, .int .i64 g, .slice va vn vc, .slice sa sn sc] 42
        have HG7 := Lib.hid (grownN_trans (grownN_trans HG6.out hg) gk)
        obtain ⟨q, hq⟩ : ∃ q, q = decide (0 ≤ left W H X base m rn D n g L (addDay P true)) := ⟨_, rfl⟩
        have hcan := canret_any _ A B C E W H base m rn n g xv dv (.slice va vn vc) (.slice sa sn sc) X D L (addDay P true) (HCAP.out.on HG7.out) HM.out.1 HM.out.2.1 (HX.out.grown HG7.out) (HD.out.grown HG7.out) (hu.sees.grown gk) (ht.sees.grown gk)
        rw [← hq] at hcan
        have HCAN2 := Lib.hid hcan
        have HS2 : Hid (both W H X base m rn D n f L P gx = q) := by
          show _ = _
          rw [HS.out, hq, HE.out.2.1]; unfold safe; rw [HB.out]; rfl
        obtain ⟨k0, k1, k2, k3⟩ := four bk
        clear hu ht hg gk bk hq hcan c0 c1 c2 c3
        go_wp2_with fail
        refine HCAN2.out.mono ?_
        rintro e w8 ⟨rfl, hg⟩
        have HG8 := Lib.hid (grownN_trans HG7.out hg)
        clear hg k0 k1 k2 k3
        go_wp2
        go_ret
        exact ⟨by rw [HS2.out]; rfl, grownN_trans HG.out HG8.out⟩
end Go.Proofs.YtonalkamfgpokaaGreat.Day

/- Contracts of maySetOut, MayWait and MayGo, of the program and of its model. Contracts of the program's setOut, GoStep and WaitStep. -/
import Derived.Test.YtonalkamfgpokaaGreatDayI
import Derived.Test.YtonalkamfgpokaaGreatG49
namespace Go.Proofs.YtonalkamfgpokaaGreat.Day
open Go.RowKit Kit Rw Rg Four PartyL Pc Pd Pe Stm Crw Hom HomS Ld

/-- The five boxes of maySetOut. -/
structure M5 (w wx : World) (W H base m rn n f : Int) (xv dv cv pv : Value) : Prop where
  land : Box wx w.heap.size #[.int .i64 W, .int .i64 H, xv] 37
  bas : Box wx (w.heap.size + 1) #[.int .i64 base] 3
  rule : Box wx (w.heap.size + 1 + 1) #[.int .i64 m, .int .i64 rn] 38
  deps : Box wx (w.heap.size + 1 + 1 + 1) #[dv] 39
  party : Box wx (w.heap.size + 1 + 1 + 1 + 1) #[.int .i64 n, .int .i64 f, cv, pv] 42
  grown : w.grownBy wx none
section
variable {w wx wy : World} {W H base m rn n f : Int} {xv dv cv pv : Value}
theorem M5.on (h : M5 w wx W H base m rn n f xv dv cv pv) (hg : wx.grownBy wy none) : M5 w wy W H base m rn n f xv dv cv pv :=
  ⟨h.land.grown hg, h.bas.grown hg, h.rule.grown hg, h.deps.grown hg, h.party.grown hg, grownN_trans h.grown hg⟩
theorem M5.caps (h : M5 w wx W H base m rn n f xv dv cv pv) : Caps wx w.heap.size (w.heap.size + 1) (w.heap.size + 1 + 1) (w.heap.size + 1 + 1 + 1) W H base m rn xv dv :=
  ⟨h.land, h.bas.cell 0, h.rule, h.deps.cell 0⟩
theorem M5.start : M5 w (((((w.alloc (.cells #[.int .i64 W, .int .i64 H, xv] 37 (0, 0))).alloc (.cells #[.int .i64 base] 3 (0, 0))).alloc (.cells #[.int .i64 m, .int .i64 rn] 38 (0, 0))).alloc (.cells #[dv] 39 (0, 0))).alloc (.cells #[.int .i64 n, .int .i64 f, cv, pv] 42 (0, 0))) W H base m rn n f xv dv cv pv := by
  generalize h1 : w.alloc (.cells #[.int .i64 W, .int .i64 H, xv] 37 (0, 0)) = w1
  generalize h2 : w1.alloc (.cells #[.int .i64 base] 3 (0, 0)) = w2
  generalize h3 : w2.alloc (.cells #[.int .i64 m, .int .i64 rn] 38 (0, 0)) = w3
  generalize h4 : w3.alloc (.cells #[dv] 39 (0, 0)) = w4
  generalize h5 : w4.alloc (.cells #[.int .i64 n, .int .i64 f, cv, pv] 42 (0, 0)) = w5
  have g1 : w.grownBy w1 none := by rw [← h1]; exact World.grownBy_alloc _ _ _
  have g2 : w1.grownBy w2 none := by rw [← h2]; exact World.grownBy_alloc _ _ _
  have g3 : w2.grownBy w3 none := by rw [← h3]; exact World.grownBy_alloc _ _ _
  have g4 : w3.grownBy w4 none := by rw [← h4]; exact World.grownBy_alloc _ _ _
  have g5 : w4.grownBy w5 none := by rw [← h5]; exact World.grownBy_alloc _ _ _
  have s1 : w1.heap.size = w.heap.size + 1 := by rw [← h1]; simp
  have s2 : w2.heap.size = w.heap.size + 1 + 1 := by rw [← h2, ← s1]; simp
  have s3 : w3.heap.size = w.heap.size + 1 + 1 + 1 := by rw [← h3, ← s2]; simp
  have s4 : w4.heap.size = w.heap.size + 1 + 1 + 1 + 1 := by rw [← h4, ← s3]; simp
  have b1 : Box w1 w.heap.size _ _ := h1 ▸ box_new w #[.int .i64 W, .int .i64 H, xv] 37
  have b2 : Box w2 w1.heap.size _ _ := h2 ▸ box_new w1 #[.int .i64 base] 3
  have b3 : Box w3 w2.heap.size _ _ := h3 ▸ box_new w2 #[.int .i64 m, .int .i64 rn] 38
  have b4 : Box w4 w3.heap.size _ _ := h4 ▸ box_new w3 #[dv] 39
  have b5 : Box w5 w4.heap.size _ _ := h5 ▸ box_new w4 #[.int .i64 n, .int .i64 f, cv, pv] 42
  rw [s1] at b2
  rw [s2] at b3
  rw [s3] at b4
  rw [s4] at b5
  exact ⟨(((b1.grown g2).grown g3).grown g4).grown g5, ((b2.grown g3).grown g4).grown g5, (b3.grown g4).grown g5, b4.grown g5, b5, grownN_trans (grownN_trans (grownN_trans (grownN_trans g1 g2) g3) g4) g5⟩
end

set_option maxRecDepth 20000 in
set_option maxHeartbeats 4000000 in
theorem setOut_any (w : World) (W H base m rn n f gx : Int) (xv dv cv pv : Value) (X : List Int) (D : List (Int × Int)) (L : List Mem) (P : List Bool) (hm : (Lit.int .i64 m).wf = true) (hrn : (Lit.int .i64 rn).wf = true) (hf : (Lit.int .i64 f).wf = true)
    (hx : Sees .i64 w xv X) (hd : SeesG encP w dv D) (hc : SeesG encM w cv L) (hp : SeesG encB w pv P) (hL : L.length ≤ 1000000000) (hP : P.length ≤ 100000000) :
    Calls Tryz.prog 131 #[.agg #[.int .i64 W, .int .i64 H, xv], .int .i64 base, .agg #[.int .i64 m, .int .i64 rn], dv, .agg #[.int .i64 n, .int .i64 f, cv, pv], .int .i64 gx] w fun e w' => e = .returned (.bool (setOut W H X base m rn D n f L P gx)) ∧ w.grownBy w' none := by
  have hmf : ∀ (fn : Fn) (first cap : Array Value) (w : World), (Instr.makeFunc fn first cap).run Tryz.prog w = .ok (.func fn first cap) w := fun _ _ _ _ => rfl
  obtain ⟨xa, xn, xc, rfl, HXN⟩ := hx.shape
  obtain ⟨da, dn, dc, rfl, HDN⟩ := hd.shape
  obtain ⟨ca, cn, cc, rfl, HCN⟩ := hc.shape
  obtain ⟨pa, pn, pc, rfl, HPN⟩ := hp.shape
  have hm5 := M5.start (w := w) (W := W) (H := H) (base := base) (m := m) (rn := rn) (n := n) (f := f) (xv := .slice xa xn xc) (dv := .slice da dn dc) (cv := .slice ca cn cc) (pv := .slice pa pn pc)
  have HM5 := Lib.hid hm5
  have HX := Lib.hid (hx.grown HM5.out.grown)
  have HD := Lib.hid (hd.grown HM5.out.grown)
  have HC := Lib.hid (hc.grown HM5.out.grown)
  have HP := Lib.hid (hp.grown HM5.out.grown)
  have HM := Lib.hid (And.intro hm (And.intro hrn hf))
  have HLP := Lib.hid (And.intro hL hP)
  have hcan := canret_any _ w.heap.size (w.heap.size + 1) (w.heap.size + 1 + 1) (w.heap.size + 1 + 1 + 1) W H base m rn n f (.slice xa xn xc) (.slice da dn dc) (.slice ca cn cc) (.slice pa pn pc) X D L P hm5.caps hm hrn HX.out HD.out HC.out HP.out
  obtain ⟨q, hq⟩ : ∃ q, q = decide (0 ≤ left W H X base m rn D n f L P) := ⟨_, rfl⟩
  rw [← hq] at hcan
  have HCAN := Lib.hid hcan
  have HS : Hid (setOut W H X base m rn D n f L P gx = (q && both W H X base m rn D n f L P gx)) := by show _ = _; unfold setOut; rw [hq]
  obtain ⟨c0, c1, c2, c3⟩ := four hm5.party
  clear hx hd hc hp hm hrn hf hL hP hcan hq hm5
  go_enter Tryz.func131, Tryz.ntmps131
  go_wp2_with fail
  generalize ((((w.alloc (.cells #[.int .i64 W, .int .i64 H, .slice xa xn xc] 37 (0, 0))).alloc (.cells #[.int .i64 base] 3 (0, 0))).alloc (.cells #[.int .i64 m, .int .i64 rn] 38 (0, 0))).alloc (.cells #[.slice da dn dc] 39 (0, 0))).alloc (.cells #[.int .i64 n, .int .i64 f, .slice ca cn cc, .slice pa pn pc] 42 (0, 0)) = W0 at *
  refine HCAN.out.mono ?_
  rintro e w2 ⟨rfl, hg⟩
  have HM2 := Lib.hid (HM5.out.on hg)
  have HG2 := Lib.hid hg
  clear hg c0 c1 c2 c3
  cases q
  · have HR : Hid (setOut W H X base m rn D n f L P gx = false) := by show _ = _; rw [HS.out]; rfl
    go_wp2
    go_ret
    exact ⟨by rw [HR.out]; rfl, HM2.out.grown⟩
  · have HR : Hid (setOut W H X base m rn D n f L P gx = both W H X base m rn D n f L P gx) := by show _ = _; rw [HS.out]; rfl
    have r0 := HM2.out.rule.cell 0
    have r1 := HM2.out.rule.cell 1
    obtain ⟨c0, c1, c2, c3⟩ := four HM2.out.party
    have hb := both_any w2 w.heap.size (w.heap.size + 1) (w.heap.size + 1 + 1) (w.heap.size + 1 + 1 + 1) W H base m rn n f gx (.slice xa xn xc) (.slice da dn dc) (.slice ca cn cc) (.slice pa pn pc) X D L P HM2.out.caps HM.out.1 HM.out.2.1 HM.out.2.2 (HX.out.grown HG2.out) (HD.out.grown HG2.out) (HC.out.grown HG2.out) (HP.out.grown HG2.out) HLP.out.1 HLP.out.2
    obtain ⟨z, hz⟩ : ∃ z, z = both W H X base m rn D n f L P gx := ⟨_, rfl⟩
    rw [← hz] at hb HR
    have HB := Lib.hid hb
    clear hb hz
    go_wp2_with fail
    refine HB.out.mono ?_
    rintro e w3 ⟨rfl, hg⟩
    have HM3 := Lib.hid (HM2.out.on hg)
    clear hg
    go_wp2
    go_ret
    exact ⟨by rw [HR.out]; rfl, HM3.out.grown⟩

set_option maxRecDepth 20000 in
set_option maxHeartbeats 4000000 in
theorem iWait_any (w : World) (W H base m rn n f : Int) (xv dv cv pv : Value) (X : List Int) (D : List (Int × Int)) (L : List Mem) (P : List Bool) (hm : (Lit.int .i64 m).wf = true) (hrn : (Lit.int .i64 rn).wf = true) (hf : (Lit.int .i64 f).wf = true)
    (hx : Sees .i64 w xv X) (hd : SeesG encP w dv D) (hc : SeesG encM w cv L) (hp : SeesG encB w pv P) (hL : L.length ≤ 1000000000) (hP : P.length ≤ 100000000) :
    Calls Tryz.prog 78 #[.agg #[.int .i64 W, .int .i64 H, xv], .int .i64 base, .agg #[.int .i64 m, .int .i64 rn], dv, .agg #[.int .i64 n, .int .i64 f, cv, pv]] w fun e w' => e = .returned (.bool (setOut W H X base m rn D n f L P n)) ∧ w.grownBy w' none := by
  obtain ⟨xa, xn, xc, rfl, HXN⟩ := hx.shape
  obtain ⟨da, dn, dc, rfl, HDN⟩ := hd.shape
  obtain ⟨ca, cn, cc, rfl, HCN⟩ := hc.shape
  obtain ⟨pa, pn, pc, rfl, HPN⟩ := hp.shape
  have HB0 := Lib.hid (H0.start (w := w) (W := W) (H := H) (m := m) (rn := rn) (n := n) (f := f) (xv := .slice xa xn xc) (cv := .slice ca cn cc) (pv := .slice pa pn pc))
  have hb := setOut_any _ W H base m rn n f n (.slice xa xn xc) (.slice da dn dc) (.slice ca cn cc) (.slice pa pn pc) X D L P hm hrn hf (hx.grown HB0.out.grown) (hd.grown HB0.out.grown) (hc.grown HB0.out.grown) (hp.grown HB0.out.grown) hL hP
  obtain ⟨z, hz⟩ : ∃ z, z = setOut W H X base m rn D n f L P n := ⟨_, rfl⟩
  rw [← hz] at hb ⊢
  have HB := Lib.hid hb
  obtain ⟨⟨a0, a1, a2⟩, ⟨b0, b1⟩, c0, c1, c2, c3⟩ := HB0.out.cells
  clear hx hd hc hp hm hrn hf hL hP hb hz
  go_enter Tryz.func78, Tryz.ntmps78
  go_wp2_with fail
  refine HB.out.mono ?_
  rintro e w2 ⟨rfl, hg⟩
  have HG := Lib.hid (grownN_trans HB0.out.grown hg)
  clear hg
  go_wp2
  go_ret
  exact ⟨rfl, HG.out⟩

noncomputable def mayGo (W H : Int) (X : List Int) (base m rn : Int) (D : List (Int × Int)) (n f : Int) (L : List Mem) (P : List Bool) (gx : Int) : Bool :=
  decide (gx ∈ nearOf W H X n) && setOut W H X base m rn D n f L P gx

set_option maxRecDepth 20000 in
set_option maxHeartbeats 4000000 in
theorem iGo_any (w : World) (W H base m rn n f gx : Int) (xv dv cv pv : Value) (X : List Int) (D : List (Int × Int)) (L : List Mem) (P : List Bool) (hm : (Lit.int .i64 m).wf = true) (hrn : (Lit.int .i64 rn).wf = true) (hf : (Lit.int .i64 f).wf = true)
    (hx : Sees .i64 w xv X) (hd : SeesG encP w dv D) (hc : SeesG encM w cv L) (hp : SeesG encB w pv P) (hL : L.length ≤ 1000000000) (hP : P.length ≤ 100000000) :
    Calls Tryz.prog 92 #[.agg #[.int .i64 W, .int .i64 H, xv], .int .i64 base, .agg #[.int .i64 m, .int .i64 rn], dv, .agg #[.int .i64 n, .int .i64 f, cv, pv], .int .i64 gx] w fun e w' => e = .returned (.bool (mayGo W H X base m rn D n f L P gx)) ∧ w.grownBy w' none := by
  obtain ⟨xa, xn, xc, rfl, HXN⟩ := hx.shape
  obtain ⟨da, dn, dc, rfl, HDN⟩ := hd.shape
  obtain ⟨ca, cn, cc, rfl, HCN⟩ := hc.shape
  obtain ⟨pa, pn, pc, rfl, HPN⟩ := hp.shape
  have HB0 := Lib.hid (H0.start (w := w) (W := W) (H := H) (m := m) (rn := rn) (n := n) (f := f) (xv := .slice xa xn xc) (cv := .slice ca cn cc) (pv := .slice pa pn pc))
  have HX := Lib.hid (hx.grown HB0.out.grown)
  have HD := Lib.hid (hd.grown HB0.out.grown)
  have HC := Lib.hid (hc.grown HB0.out.grown)
  have HP := Lib.hid (hp.grown HB0.out.grown)
  have HM := Lib.hid (And.intro hm (And.intro hrn hf))
  have HLP := Lib.hid (And.intro hL hP)
  obtain ⟨⟨a0, a1, a2⟩, ⟨b0, b1⟩, c0, c1, c2, c3⟩ := HB0.out.cells
  clear hx hd hc hp hm hrn hf hL hP
  go_enter Tryz.func92, Tryz.ntmps92
  go_wp2_with fail
  generalize ((w.alloc (.cells #[.int .i64 W, .int .i64 H, .slice xa xn xc] 37 (0, 0))).alloc (.cells #[.int .i64 m, .int .i64 rn] 38 (0, 0))).alloc (.cells #[.int .i64 n, .int .i64 f, .slice ca cn cc, .slice pa pn pc] 42 (0, 0)) = W0 at *
  generalize w.heap.size = A at *
  refine (LandI.near_any W0 W H n _ X HX.out).mono ?_
  rintro e w2 ⟨u, rfl, ho, hg⟩
  obtain ⟨ua, un, uc, hu', HUN⟩ := ho.sees.shape
  subst hu'
  have HO := Lib.hid ho.sees
  have HG2 := Lib.hid hg
  have HB2 := Lib.hid (HB0.out.on hg)
  obtain ⟨q, hq⟩ : ∃ q, q = decide (gx ∈ nearOf W H X n) := ⟨_, rfl⟩
  have hcon := Cont.contains_any w2 _ gx _ ho.sees
  rw [← hq] at hcon
  have HCON := Lib.hid hcon
  have HS : Hid (mayGo W H X base m rn D n f L P gx = (q && setOut W H X base m rn D n f L P gx)) := by show _ = _; unfold mayGo; rw [hq]
  clear ho hg hq hcon a0 a1 a2 b0 b1 c0 c1 c2 c3
  go_wp2_with fail
  refine HCON.out.mono ?_
  rintro e w3 ⟨rfl, rfl⟩
  cases q
  · have HR : Hid (mayGo W H X base m rn D n f L P gx = false) := by show _ = _; rw [HS.out]; rfl
    go_wp2
    go_ret
    exact ⟨by rw [HR.out]; rfl, HB2.out.grown⟩
  · have HR : Hid (mayGo W H X base m rn D n f L P gx = setOut W H X base m rn D n f L P gx) := by show _ = _; rw [HS.out]; rfl
    have hb := setOut_any _ W H base m rn n f gx (.slice xa xn xc) (.slice da dn dc) (.slice ca cn cc) (.slice pa pn pc) X D L P HM.out.1 HM.out.2.1 HM.out.2.2 (HX.out.grown HG2.out) (HD.out.grown HG2.out) (HC.out.grown HG2.out) (HP.out.grown HG2.out) HLP.out.1 HLP.out.2
    obtain ⟨z, hz⟩ : ∃ z, z = setOut W H X base m rn D n f L P gx := ⟨_, rfl⟩
    rw [← hz] at hb HR
    have HBB := Lib.hid hb
    obtain ⟨⟨a0, a1, a2⟩, ⟨b0, b1⟩, c0, c1, c2, c3⟩ := HB2.out.cells
    clear hb hz
    go_wp2_with fail
    refine HBB.out.mono ?_
    rintro e w4 ⟨rfl, hg⟩
    have HG := Lib.hid (grownN_trans HB2.out.grown hg)
    clear hg
    go_wp2
    go_ret
    exact ⟨by rw [HR.out]; rfl, HG.out⟩
end Go.Proofs.YtonalkamfgpokaaGreat.Day

namespace Go.Proofs.YtonalkamfgpokaaGreat.Day
open Go.RowKit Kit Rw Rg Four PartyL Pc Pd Pe Stm Crw Hom HomS

/-- What becomes of a party that goes, or stays (st: in a storm). -/
def outAt (may st y : Bool) (L : List Mem) (f n gx : Int) : Int := if (may && (!st || y)) = true then dayN L f n (if st = true then n else gx) else n
def outF (may st y : Bool) (L : List Mem) (f : Int) : Int := if (may && (!st || y)) = true then eatF L f else f
def outB (may st y : Bool) (L : List Mem) (f : Int) : Bool := may && (!st || y) && eatB L f
def outP (may st y : Bool) (L : List Mem) (f : Int) (P : List Bool) : List Bool := if (may && (!st || y)) = true then dayP L f P st else P

set_option maxRecDepth 20000 in
set_option maxHeartbeats 4000000 in
theorem out_any (w : World) (m rn n f gx : Int) (st may : Bool) (cv pv : Value) (L : List Mem) (P : List Bool) (hm : (Lit.int .i64 m).wf = true) (hrn : (Lit.int .i64 rn).wf = true) (hf : (Lit.int .i64 f).wf = true)
    (hc : SeesG encM w cv L) (hp : SeesG encB w pv P) (hL : L.length ≤ 1000000000) (hP : P.length ≤ 100000000) :
    Calls Tryz.prog 91 #[.agg #[.int .i64 m, .int .i64 rn], .agg #[.int .i64 n, .int .i64 f, cv, pv], .int .i64 gx, .bool st, .bool may] w fun e w' => ∃ u t, e = .returned (.tuple #[.agg #[.int .i64 (outAt may st (mayStorm m rn P) L f n gx), .int .i64 (outF may st (mayStorm m rn P) L f), u, t], .bool (outB may st (mayStorm m rn P) L f)]) ∧ PartyOut w w' u t L (outP may st (mayStorm m rn P) L f P) := by
  obtain ⟨ca, cn, cc, rfl, HCN⟩ := hc.shape
  obtain ⟨pa, pn, pc, rfl, HPN⟩ := hp.shape
  have g0 := World.grownBy_alloc w (.cells #[.int .i64 m, .int .i64 rn] 38 (0, 0)) (none : Option Nat)
  have g1 := World.grownBy_alloc (w.alloc (.cells #[.int .i64 m, .int .i64 rn] 38 (0, 0))) (.cells #[.int .i64 n, .int .i64 f, .slice ca cn cc, .slice pa pn pc] 42 (0, 0)) (none : Option Nat)
  have g2 := World.grownBy_alloc ((w.alloc (.cells #[.int .i64 m, .int .i64 rn] 38 (0, 0))).alloc (.cells #[.int .i64 n, .int .i64 f, .slice ca cn cc, .slice pa pn pc] 42 (0, 0))) (.cells #[.int .i64 0, .int .i64 0, .slice none 0 0, .slice none 0 0] 42 (0, 0)) (none : Option Nat)
  have b0 := ((box_new w #[.int .i64 m, .int .i64 rn] 38).grown g1).grown g2
  have b1 := (box_new (w.alloc (.cells #[.int .i64 m, .int .i64 rn] 38 (0, 0))) #[.int .i64 n, .int .i64 f, .slice ca cn cc, .slice pa pn pc] 42).grown g2
  have b2 := box_new ((w.alloc (.cells #[.int .i64 m, .int .i64 rn] 38 (0, 0))).alloc (.cells #[.int .i64 n, .int .i64 f, .slice ca cn cc, .slice pa pn pc] 42 (0, 0))) #[.int .i64 0, .int .i64 0, .slice none 0 0, .slice none 0 0] 42
  simp only [World.size_alloc] at b1 b2
  have HG := Lib.hid (grownN_trans (grownN_trans g0 g1) g2)
  have B0 := Lib.hid b0
  have B1 := Lib.hid b1
  have B2 := Lib.hid b2
  have HC := Lib.hid (hc.grown HG.out)
  have HP := Lib.hid (hp.grown HG.out)
  have HM := Lib.hid (And.intro hm (And.intro hrn hf))
  have HLP := Lib.hid (And.intro hL hP)
  have hms := fun w' hp => StI.iMayStorm_any w' m rn hm hrn (.slice pa pn pc) P hp
  obtain ⟨y, hy⟩ : ∃ y, y = mayStorm m rn P := ⟨_, rfl⟩
  rw [← hy] at hms ⊢
  have HMS := Lib.hid hms
  have HZ := Lib.hid HG.out.size
  obtain ⟨c0, c1, c2, c3⟩ := four b1
  have r0 := b0.cell 0
  have r1 := b0.cell 1
  clear hc hp hm hrn hf hL hP hms hy g0 g1 g2 b0 b1 b2
  cases may
  · go_enter Tryz.func91, Tryz.ntmps91
    go_wp2_with fail
    generalize ((w.alloc (.cells #[.int .i64 m, .int .i64 rn] 38 (0, 0))).alloc (.cells #[.int .i64 n, .int .i64 f, .slice ca cn cc, .slice pa pn pc] 42 (0, 0))).alloc (.cells #[.int .i64 0, .int .i64 0, .slice none 0 0, .slice none 0 0] 42 (0, 0)) = W0 at *
    have HGX := Lib.hid (World.grownBy.refl W0 none)
    clear c0 c1 c2 c3 r0 r1
    refine (Pe.from_any W0 n f f _ _ (.slice none 0 0) 0 L P (HC.out.grown HGX.out) (HP.out.grown HGX.out) HLP.out.1 (by have := HLP.out.2; omega) (.inl ⟨rfl, rfl, rfl⟩)).mono ?_
    rintro e wf ⟨u, t, rfl, hu, ht, hap, hg⟩
    obtain ⟨ua, un, uc, hu', HUN⟩ := hu.sees.shape
    subst hu'
    obtain ⟨ta, tn, tc, ht', HTN⟩ := ht.sees.shape
    subst ht'
    have HU := Lib.hid hu
    have HT := Lib.hid ht
    have HAP := Lib.hid hap
    have hGf := grownN_trans HGX.out hg
    have hR := B2.out.grown hGf
    have HGF := Lib.hid (grownN_trans HG.out hGf)
    have HRL := Lib.hid (Nat.le_trans B2.out.lt HGX.out.size)
    have HZX := Lib.hid (Nat.le_trans HZ.out HGX.out.size)
    have HRB := Lib.hid hR
    obtain ⟨⟨p0, q0⟩, ⟨p1, q1⟩, ⟨p2, q2⟩, ⟨p3, q3⟩⟩ := put4_on hR (.int .i64 (n)) (.int .i64 (f)) (.slice ua un uc) (.slice ta tn tc)
    clear hu ht hap hg hGf hR
    go_wp2
    try simp only [Exit.inBlock, Exit.then]
    have hP4 := put4_grown wf (w.heap.size + 1 + 1) (.int .i64 (n)) (.int .i64 (f)) (.slice ua un uc) (.slice ta tn tc)
    have hrl := HRL.out
    refine ret_box1 rfl rfl (put4_box (x' := .int .i64 (n)) (y' := .int .i64 (f)) (z' := (.slice ua un uc)) (u' := (.slice ta tn tc)) HRB.out) Tryz.underlying42 rfl (by kernel_rfl) rfl ?_
    exact ⟨(.slice ua un uc), (.slice ta tn tc), rfl, (HU.out.kept hP4 (.inr (HU.out.off (by omega)))).lower HZX.out, (HT.out.kept hP4 (.inr (HT.out.off (by omega)))).lower HZX.out, HAP.out, grown_new HGF.out hP4 (fun c h => by injection h with h; omega)⟩
  · cases st
    · go_enter Tryz.func91, Tryz.ntmps91
      go_wp2_with fail
      generalize ((w.alloc (.cells #[.int .i64 m, .int .i64 rn] 38 (0, 0))).alloc (.cells #[.int .i64 n, .int .i64 f, .slice ca cn cc, .slice pa pn pc] 42 (0, 0))).alloc (.cells #[.int .i64 0, .int .i64 0, .slice none 0 0, .slice none 0 0] 42 (0, 0)) = W0 at *
      have HGX := Lib.hid (World.grownBy.refl W0 none)
      clear c0 c1 c2 c3 r0 r1
      refine (pass_any W0 n f gx false _ _ L P HM.out.2.2 (HC.out.grown HGX.out) (HP.out.grown HGX.out) HLP.out.1 HLP.out.2).mono ?_
      rintro e wf ⟨u, t, rfl, hu, ht, hap, hg⟩
      obtain ⟨ua, un, uc, hu', HUN⟩ := hu.sees.shape
      subst hu'
      obtain ⟨ta, tn, tc, ht', HTN⟩ := ht.sees.shape
      subst ht'
      have HU := Lib.hid hu
      have HT := Lib.hid ht
      have HAP := Lib.hid hap
      have hGf := grownN_trans HGX.out hg
      have hR := B2.out.grown hGf
      have HGF := Lib.hid (grownN_trans HG.out hGf)
      have HRL := Lib.hid (Nat.le_trans B2.out.lt HGX.out.size)
      have HZX := Lib.hid (Nat.le_trans HZ.out HGX.out.size)
      have HRB := Lib.hid hR
      obtain ⟨⟨p0, q0⟩, ⟨p1, q1⟩, ⟨p2, q2⟩, ⟨p3, q3⟩⟩ := put4_on hR (.int .i64 (dayN L f n gx)) (.int .i64 (eatF L f)) (.slice ua un uc) (.slice ta tn tc)
      clear hu ht hap hg hGf hR
      go_wp2
      try simp only [Exit.inBlock, Exit.then]
      have hP4 := put4_grown wf (w.heap.size + 1 + 1) (.int .i64 (dayN L f n gx)) (.int .i64 (eatF L f)) (.slice ua un uc) (.slice ta tn tc)
      have hrl := HRL.out
      refine ret_box1 rfl rfl (put4_box (x' := .int .i64 (dayN L f n gx)) (y' := .int .i64 (eatF L f)) (z' := (.slice ua un uc)) (u' := (.slice ta tn tc)) HRB.out) Tryz.underlying42 rfl (by kernel_rfl) rfl ?_
      exact ⟨(.slice ua un uc), (.slice ta tn tc), rfl, (HU.out.kept hP4 (.inr (HU.out.off (by omega)))).lower HZX.out, (HT.out.kept hP4 (.inr (HT.out.off (by omega)))).lower HZX.out, HAP.out, grown_new HGF.out hP4 (fun c h => by injection h with h; omega)⟩
    · go_enter Tryz.func91, Tryz.ntmps91
      go_wp2_with fail
      generalize ((w.alloc (.cells #[.int .i64 m, .int .i64 rn] 38 (0, 0))).alloc (.cells #[.int .i64 n, .int .i64 f, .slice ca cn cc, .slice pa pn pc] 42 (0, 0))).alloc (.cells #[.int .i64 0, .int .i64 0, .slice none 0 0, .slice none 0 0] 42 (0, 0)) = W0 at *
      refine (HMS.out _ HP.out).mono ?_
      rintro e w5 ⟨rfl, hg0⟩
      have HGX := Lib.hid hg0
      clear hg0 c0 c1 c2 c3 r0 r1
      obtain ⟨c0, c1, c2, c3⟩ := four (B1.out.grown HGX.out)
      cases y
      · go_wp2_with fail
        clear c0 c1 c2 c3
        refine (Pe.from_any w5 n f f _ _ (.slice none 0 0) 0 L P (HC.out.grown HGX.out) (HP.out.grown HGX.out) HLP.out.1 (by have := HLP.out.2; omega) (.inl ⟨rfl, rfl, rfl⟩)).mono ?_
        rintro e wf ⟨u, t, rfl, hu, ht, hap, hg⟩
        obtain ⟨ua, un, uc, hu', HUN⟩ := hu.sees.shape
        subst hu'
        obtain ⟨ta, tn, tc, ht', HTN⟩ := ht.sees.shape
        subst ht'
        have HU := Lib.hid hu
        have HT := Lib.hid ht
        have HAP := Lib.hid hap
        have hGf := grownN_trans HGX.out hg
        have hR := B2.out.grown hGf
        have HGF := Lib.hid (grownN_trans HG.out hGf)
        have HRL := Lib.hid (Nat.le_trans B2.out.lt HGX.out.size)
        have HZX := Lib.hid (Nat.le_trans HZ.out HGX.out.size)
        have HRB := Lib.hid hR
        obtain ⟨⟨p0, q0⟩, ⟨p1, q1⟩, ⟨p2, q2⟩, ⟨p3, q3⟩⟩ := put4_on hR (.int .i64 (n)) (.int .i64 (f)) (.slice ua un uc) (.slice ta tn tc)
        clear hu ht hap hg hGf hR
        go_wp2
        try simp only [Exit.inBlock, Exit.then]
        have hP4 := put4_grown wf (w.heap.size + 1 + 1) (.int .i64 (n)) (.int .i64 (f)) (.slice ua un uc) (.slice ta tn tc)
        have hrl := HRL.out
        refine ret_box1 rfl rfl (put4_box (x' := .int .i64 (n)) (y' := .int .i64 (f)) (z' := (.slice ua un uc)) (u' := (.slice ta tn tc)) HRB.out) Tryz.underlying42 rfl (by kernel_rfl) rfl ?_
        exact ⟨(.slice ua un uc), (.slice ta tn tc), rfl, (HU.out.kept hP4 (.inr (HU.out.off (by omega)))).lower HZX.out, (HT.out.kept hP4 (.inr (HT.out.off (by omega)))).lower HZX.out, HAP.out, grown_new HGF.out hP4 (fun c h => by injection h with h; omega)⟩
      · go_wp2_with fail
        clear c0 c1 c2 c3
        refine (pass_any w5 n f n true _ _ L P HM.out.2.2 (HC.out.grown HGX.out) (HP.out.grown HGX.out) HLP.out.1 HLP.out.2).mono ?_
        rintro e wf ⟨u, t, rfl, hu, ht, hap, hg⟩
        obtain ⟨ua, un, uc, hu', HUN⟩ := hu.sees.shape
        subst hu'
        obtain ⟨ta, tn, tc, ht', HTN⟩ := ht.sees.shape
        subst ht'
        have HU := Lib.hid hu
        have HT := Lib.hid ht
        have HAP := Lib.hid hap
        have hGf := grownN_trans HGX.out hg
        have hR := B2.out.grown hGf
        have HGF := Lib.hid (grownN_trans HG.out hGf)
        have HRL := Lib.hid (Nat.le_trans B2.out.lt HGX.out.size)
        have HZX := Lib.hid (Nat.le_trans HZ.out HGX.out.size)
        have HRB := Lib.hid hR
        obtain ⟨⟨p0, q0⟩, ⟨p1, q1⟩, ⟨p2, q2⟩, ⟨p3, q3⟩⟩ := put4_on hR (.int .i64 (dayN L f n n)) (.int .i64 (eatF L f)) (.slice ua un uc) (.slice ta tn tc)
        clear hu ht hap hg hGf hR
        go_wp2
        try simp only [Exit.inBlock, Exit.then]
        have hP4 := put4_grown wf (w.heap.size + 1 + 1) (.int .i64 (dayN L f n n)) (.int .i64 (eatF L f)) (.slice ua un uc) (.slice ta tn tc)
        have hrl := HRL.out
        refine ret_box1 rfl rfl (put4_box (x' := .int .i64 (dayN L f n n)) (y' := .int .i64 (eatF L f)) (z' := (.slice ua un uc)) (u' := (.slice ta tn tc)) HRB.out) Tryz.underlying42 rfl (by kernel_rfl) rfl ?_
        exact ⟨(.slice ua un uc), (.slice ta tn tc), rfl, (HU.out.kept hP4 (.inr (HU.out.off (by omega)))).lower HZX.out, (HT.out.kept hP4 (.inr (HT.out.off (by omega)))).lower HZX.out, HAP.out, grown_new HGF.out hP4 (fun c h => by injection h with h; omega)⟩

theorem keep3H {w wx wy : World} {A : Nat} {W H m rn n f : Int} {xv cv pv : Value} (h : H0 w wx A W H m rn n f xv cv pv) (hg : wx.grownBy wy (some (A + 3))) : H0 w wy A W H m rn n f xv cv pv :=
  ⟨h.land.kept hg (by intro e; injection e with e; omega), h.rule.kept hg (by intro e; injection e with e; omega), h.party.kept hg (by intro e; injection e with e; omega), grown_new h.grown hg (fun c e => by injection e with e; have := h.eq; omega), h.eq⟩
theorem both_eat {W H : Int} {X : List Int} {base m rn : Int} {D : List (Int × Int)} {n f : Int} {L : List Mem} {P : List Bool} {gx : Int} (h : setOut W H X base m rn D n f L P gx = true) : eatB L f = true := by
  unfold setOut both safe at h
  simp only [Bool.and_eq_true] at h
  exact h.2.1.1
/-- What GoStep and WaitStep make of a party. -/
def stN (ok st : Bool) (n gx : Int) : Int := if ok = true then (if st = true then n else gx) else n
def stF (ok : Bool) (L : List Mem) (f : Int) : Int := if ok = true then eatF L f else f
def stP (ok st : Bool) (P : List Bool) : List Bool := if ok = true then addDay P st else P
theorem out_st {may st y : Bool} {L : List Mem} {f n gx : Int} {P : List Bool} (h : may = true → eatB L f = true) :
    outAt may st y L f n gx = stN (may && (!st || y)) st n gx ∧ outF may st y L f = stF (may && (!st || y)) L f ∧ outB may st y L f = (may && (!st || y)) ∧ outP may st y L f P = stP (may && (!st || y)) st P := by
  unfold outAt outF outB outP stN stF stP dayN dayP
  cases may
  · exact ⟨rfl, rfl, rfl, rfl⟩
  · rw [h rfl]
    cases st <;> cases y <;> exact ⟨rfl, rfl, rfl, rfl⟩

set_option maxRecDepth 20000 in
set_option maxHeartbeats 4000000 in
theorem iGoStep_any (w : World) (W H base m rn n f gx : Int) (st : Bool) (xv dv cv pv : Value) (X : List Int) (D : List (Int × Int)) (L : List Mem) (P : List Bool) (hm : (Lit.int .i64 m).wf = true) (hrn : (Lit.int .i64 rn).wf = true) (hf : (Lit.int .i64 f).wf = true)
    (hx : Sees .i64 w xv X) (hd : SeesG encP w dv D) (hc : SeesG encM w cv L) (hp : SeesG encB w pv P) (hL : L.length ≤ 1000000000) (hP : P.length ≤ 100000000) :
    Calls Tryz.prog 41 #[.agg #[.int .i64 W, .int .i64 H, xv], .int .i64 base, .agg #[.int .i64 m, .int .i64 rn], dv, .agg #[.int .i64 n, .int .i64 f, cv, pv], .int .i64 gx, .bool st] w fun e w' => ∃ u t, e = .returned (.tuple #[.agg #[.int .i64 (stN (mayGo W H X base m rn D n f L P gx && (!st || mayStorm m rn P)) st n gx), .int .i64 (stF (mayGo W H X base m rn D n f L P gx && (!st || mayStorm m rn P)) L f), u, t], .bool (mayGo W H X base m rn D n f L P gx && (!st || mayStorm m rn P))]) ∧ OwnG encM 143 w' w.heap.size u L ∧ OwnG encB 4 w' w.heap.size t (stP (mayGo W H X base m rn D n f L P gx && (!st || mayStorm m rn P)) st P) ∧ Apart t u ∧ w.grownBy w' none := by
  obtain ⟨xa, xn, xc, rfl, HXN⟩ := hx.shape
  obtain ⟨da, dn, dc, rfl, HDN⟩ := hd.shape
  obtain ⟨ca, cn, cc, rfl, HCN⟩ := hc.shape
  obtain ⟨pa, pn, pc, rfl, HPN⟩ := hp.shape
  have hb0 := H0.start (w := w) (W := W) (H := H) (m := m) (rn := rn) (n := n) (f := f) (xv := .slice xa xn xc) (cv := .slice ca cn cc) (pv := .slice pa pn pc)
  have g3 := World.grownBy_alloc (((w.alloc (.cells #[.int .i64 W, .int .i64 H, .slice xa xn xc] 37 (0, 0))).alloc (.cells #[.int .i64 m, .int .i64 rn] 38 (0, 0))).alloc (.cells #[.int .i64 n, .int .i64 f, .slice ca cn cc, .slice pa pn pc] 42 (0, 0))) (.cells #[.int .i64 0, .int .i64 0, .slice none 0 0, .slice none 0 0] 42 (0, 0)) (none : Option Nat)
  have b3 := box_new (((w.alloc (.cells #[.int .i64 W, .int .i64 H, .slice xa xn xc] 37 (0, 0))).alloc (.cells #[.int .i64 m, .int .i64 rn] 38 (0, 0))).alloc (.cells #[.int .i64 n, .int .i64 f, .slice ca cn cc, .slice pa pn pc] 42 (0, 0))) #[.int .i64 0, .int .i64 0, .slice none 0 0, .slice none 0 0] 42
  simp only [World.size_alloc] at b3
  have HB0 := Lib.hid (hb0.on g3)
  have B3 := Lib.hid b3
  have HX := Lib.hid (hx.grown HB0.out.grown)
  have HD := Lib.hid (hd.grown HB0.out.grown)
  have HC := Lib.hid (hc.grown HB0.out.grown)
  have HP := Lib.hid (hp.grown HB0.out.grown)
  have HM := Lib.hid (And.intro hm (And.intro hrn hf))
  have HLP := Lib.hid (And.intro hL hP)
  have hmay := fun w' hx hd hc hp => iGo_any w' W H base m rn n f gx (.slice xa xn xc) (.slice da dn dc) (.slice ca cn cc) (.slice pa pn pc) X D L P hm hrn hf hx hd hc hp hL hP
  have hout := fun w' may hc hp => out_any w' m rn n f gx st may (.slice ca cn cc) (.slice pa pn pc) L P hm hrn hf hc hp hL hP
  obtain ⟨q, hq⟩ : ∃ q, q = mayGo W H X base m rn D n f L P gx := ⟨_, rfl⟩
  have heat : q = true → eatB L f = true := fun h => by rw [hq] at h; unfold mayGo at h; rw [Bool.and_eq_true] at h; exact both_eat h.2
  obtain ⟨y, hy⟩ : ∃ y, y = mayStorm m rn P := ⟨_, rfl⟩
  rw [← hq] at hmay
  rw [← hq, ← hy]
  rw [← hy] at hout
  have HST := Lib.hid (out_st (st := st) (y := y) (n := n) (gx := gx) (P := P) heat)
  have HMAY := Lib.hid hmay
  have HOUT := Lib.hid hout
  clear hx hd hc hp hm hrn hf hL hP hb0 g3 b3 hmay hout hq hy heat
  go_enter Tryz.func41, Tryz.ntmps41
  go_wp2_with fail
  generalize (((w.alloc (.cells #[.int .i64 W, .int .i64 H, .slice xa xn xc] 37 (0, 0))).alloc (.cells #[.int .i64 m, .int .i64 rn] 38 (0, 0))).alloc (.cells #[.int .i64 n, .int .i64 f, .slice ca cn cc, .slice pa pn pc] 42 (0, 0))).alloc (.cells #[.int .i64 0, .int .i64 0, .slice none 0 0, .slice none 0 0] 42 (0, 0)) = W0 at *
  have HXD := Lib.hid (grown_drew (World.grownBy.refl W0 none))
  have HE : Hid (w.heap.size + 1 + 1 + 1 = w.heap.size + 3) := rfl
  refine wp_region_held_drew (S := fun w' => (w'.cell? ⟨w.heap.size, 0, none⟩ = some (.int .i64 W) ∧ w'.cell? ⟨w.heap.size, 1, none⟩ = some (.int .i64 H) ∧ w'.cell? ⟨w.heap.size, 2, none⟩ = some (.slice xa xn xc)) ∧ (w'.cell? ⟨w.heap.size + 1, 0, none⟩ = some (.int .i64 m) ∧ w'.cell? ⟨w.heap.size + 1, 1, none⟩ = some (.int .i64 rn)) ∧ (w'.cell? ⟨w.heap.size + 2, 0, none⟩ = some (.int .i64 n) ∧ w'.cell? ⟨w.heap.size + 2, 1, none⟩ = some (.int .i64 f) ∧ w'.cell? ⟨w.heap.size + 2, 2, none⟩ = some (.slice ca cn cc) ∧ w'.cell? ⟨w.heap.size + 2, 3, none⟩ = some (.slice pa pn pc))) (by kernel_rfl) (HB0.out.on HXD.out).cells (fun hHeld => ?_)
  refine wpAnyH_take (i := 0) (v := ?_) rfl (by kernel_rfl) (by kernel_rfl) (by kernel_rfl) (fun _ _ _ h => h) (Or.inl ⟨by rfl, ?_⟩) (by assumption) ?_; rotate_left; (focus (intro wS hSw; (try dsimp only at hSw); go_simp <;> with_reducible rfl)); (try simp only [Act.put, List.getElem_toArray, List.getElem_cons_succ, List.getElem_cons_zero, List.setIfInBounds_toArray, List.set_cons_zero, List.set_cons_succ])
  refine wpAnyH_take (i := 1) (v := ?_) rfl (by kernel_rfl) (by kernel_rfl) (by kernel_rfl) (fun _ _ _ h => h) (Or.inl ⟨by rfl, ?_⟩) (by assumption) ?_; rotate_left; (focus (intro wS hSw; (try dsimp only at hSw); go_simp <;> with_reducible rfl)); (try simp only [Act.put, List.getElem_toArray, List.getElem_cons_succ, List.getElem_cons_zero, List.setIfInBounds_toArray, List.set_cons_zero, List.set_cons_succ])
  refine wpAnyH_take (i := 2) (v := ?_) rfl (by kernel_rfl) (by kernel_rfl) (by kernel_rfl) (fun _ _ _ h => h) (Or.inl ⟨by rfl, ?_⟩) (by assumption) ?_; rotate_left; (focus (intro wS hSw; (try dsimp only at hSw); go_simp <;> with_reducible rfl)); (try simp only [Act.put, List.getElem_toArray, List.getElem_cons_succ, List.getElem_cons_zero, List.setIfInBounds_toArray, List.set_cons_zero, List.set_cons_succ])
  refine wpAnyH_take (i := 3) (v := ?_) rfl (by kernel_rfl) (by kernel_rfl) (by kernel_rfl) (fun _ _ _ h => h) (Or.inl ⟨by rfl, ?_⟩) (by assumption) ?_; rotate_left; (focus (intro wS hSw; (try dsimp only at hSw); go_simp <;> with_reducible rfl)); (try simp only [Act.put, List.getElem_toArray, List.getElem_cons_succ, List.getElem_cons_zero, List.setIfInBounds_toArray, List.set_cons_zero, List.set_cons_succ])
  refine wpAnyH_take (i := 4) (v := ?_) rfl (by kernel_rfl) (by kernel_rfl) (by kernel_rfl) (fun _ _ _ h => h) (Or.inl ⟨by rfl, ?_⟩) (by assumption) ?_; rotate_left; (focus (intro wS hSw; (try dsimp only at hSw); go_simp <;> with_reducible rfl)); (try simp only [Act.put, List.getElem_toArray, List.getElem_cons_succ, List.getElem_cons_zero, List.setIfInBounds_toArray, List.set_cons_zero, List.set_cons_succ])
  refine wpAnyH_take (i := 5) (v := ?_) rfl (by kernel_rfl) (by kernel_rfl) (by kernel_rfl) (fun _ _ _ h => h) (Or.inl ⟨by rfl, ?_⟩) (by assumption) ?_; rotate_left; (focus (intro wS hSw; (try dsimp only at hSw); go_simp <;> with_reducible rfl)); (try simp only [Act.put, List.getElem_toArray, List.getElem_cons_succ, List.getElem_cons_zero, List.setIfInBounds_toArray, List.set_cons_zero, List.set_cons_succ])
  refine wpAnyH_take (i := 6) (v := ?_) rfl (by kernel_rfl) (by kernel_rfl) (by kernel_rfl) (fun _ _ _ h => h) (Or.inl ⟨by rfl, ?_⟩) (by assumption) ?_; rotate_left; (focus (intro wS hSw; (try dsimp only at hSw); go_simp <;> with_reducible rfl)); (try simp only [Act.put, List.getElem_toArray, List.getElem_cons_succ, List.getElem_cons_zero, List.setIfInBounds_toArray, List.set_cons_zero, List.set_cons_succ])
  refine wpAnyH_take (i := 7) (v := ?_) rfl (by kernel_rfl) (by kernel_rfl) (by kernel_rfl) (fun _ _ _ h => h) (Or.inl ⟨by rfl, ?_⟩) (by assumption) ?_; rotate_left; (focus (intro wS hSw; (try dsimp only at hSw); go_simp <;> with_reducible rfl)); (try simp only [Act.put, List.getElem_toArray, List.getElem_cons_succ, List.getElem_cons_zero, List.setIfInBounds_toArray, List.set_cons_zero, List.set_cons_succ])
  refine wpAnyH_take (i := 8) (v := ?_) rfl (by kernel_rfl) (by kernel_rfl) (by kernel_rfl) (fun _ _ _ h => h) (Or.inl ⟨by rfl, ?_⟩) (by assumption) ?_; rotate_left; (focus (intro wS hSw; (try dsimp only at hSw); go_simp <;> with_reducible rfl)); (try simp only [Act.put, List.getElem_toArray, List.getElem_cons_succ, List.getElem_cons_zero, List.setIfInBounds_toArray, List.set_cons_zero, List.set_cons_succ])
  refine wpAnyH_take (i := 9) (v := ?_) rfl (by kernel_rfl) (by kernel_rfl) (by kernel_rfl) (fun _ _ _ h => h) (Or.inl ⟨by rfl, ?_⟩) (by assumption) ?_; rotate_left; (focus (intro wS hSw; (try dsimp only at hSw); go_simp <;> with_reducible rfl)); (try simp only [Act.put, List.getElem_toArray, List.getElem_cons_succ, List.getElem_cons_zero, List.setIfInBounds_toArray, List.set_cons_zero, List.set_cons_succ])
  refine wpAnyH_ready (rs := [10]) (by kernel_rfl) (by simp) ?_; refine AllReadyH.cons rfl (fun K hK => ?_) AllReadyH.nil; go_simp; (go_at_call 92; refine (HMAY.out _ (HX.out.grown HXD.out) (HD.out.grown HXD.out) (HC.out.grown HXD.out) (HP.out.grown HXD.out)).mono ?_; rintro e w4 ⟨rfl, hg⟩; have HG4 := Lib.hid (grownN_trans HXD.out hg); clear hg)
  refine hK.out _ _ ?_ (fun hHeld => ?_)
  · exact (HB0.out.on HG4.out).cells
  clear hK K
  (try simp only [Act.put, List.getElem_toArray, List.getElem_cons_succ, List.getElem_cons_zero, List.setIfInBounds_toArray, List.set_cons_zero, List.set_cons_succ])
  refine wpAnyH_ready (rs := [11]) (by kernel_rfl) (by simp) ?_; refine AllReadyH.cons rfl (fun K hK => ?_) AllReadyH.nil; go_simp; (go_at_call 91; refine (HOUT.out _ q (HC.out.grown HG4.out) (HP.out.grown HG4.out)).mono ?_; rintro e w5 ⟨u, t, rfl, hu, ht, hap, hg⟩; rw [HST.out.1, HST.out.2.1, HST.out.2.2.1]; rw [HST.out.2.2.2] at ht; obtain ⟨ua, un, uc, hu', HUN⟩ := hu.sees.shape; subst hu'; obtain ⟨ta, tn, tc, ht', HTN⟩ := ht.sees.shape; subst ht'; have HU := Lib.hid hu; have HT := Lib.hid ht; have HAP := Lib.hid hap; have HG5 := Lib.hid (grownN_trans HG4.out hg); have HZ4 := Lib.hid (grownN_trans HB0.out.grown HG4.out).size; have HRL := Lib.hid (Nat.le_trans B3.out.lt HG4.out.size); have HRB := Lib.hid (B3.out.grown HG5.out); obtain ⟨⟨p0, r0⟩, ⟨p1, r1⟩, ⟨p2, r2⟩, ⟨p3, r3⟩⟩ := put4_on HRB.out (.int .i64 (stN (q && (!st || y)) st n gx)) (.int .i64 (stF (q && (!st || y)) L f)) (.slice ua un uc) (.slice ta tn tc); have hP4 := put4_grown w5 (w.heap.size + 1 + 1 + 1) (.int .i64 (stN (q && (!st || y)) st n gx)) (.int .i64 (stF (q && (!st || y)) L f)) (.slice ua un uc) (.slice ta tn tc); clear hu ht hap hg)
  refine hK.out _ _ ?_ (fun hHeld => ?_)
  · exact (HB0.out.on HG5.out).cells
  clear hK K
  (try simp only [Act.put, List.getElem_toArray, List.getElem_cons_succ, List.getElem_cons_zero, List.setIfInBounds_toArray, List.set_cons_zero, List.set_cons_succ])
  refine wpAnyH_take (i := 12) (v := ?_) rfl (by kernel_rfl) (by kernel_rfl) (by kernel_rfl) (fun _ _ _ h => h) (Or.inl ⟨by rfl, ?_⟩) (by assumption) ?_; rotate_left; (focus (intro wS hSw; (try dsimp only at hSw); go_simp <;> with_reducible rfl)); (try simp only [Act.put, List.getElem_toArray, List.getElem_cons_succ, List.getElem_cons_zero, List.setIfInBounds_toArray, List.set_cons_zero, List.set_cons_succ])
  refine wpAnyH_take (i := 13) (v := ?_) rfl (by kernel_rfl) (by kernel_rfl) (by kernel_rfl) (fun _ _ _ h => h) (Or.inl ⟨by rfl, ?_⟩) (by assumption) ?_; rotate_left; (focus (intro wS hSw; (try dsimp only at hSw); go_simp <;> with_reducible rfl)); (try simp only [Act.put, List.getElem_toArray, List.getElem_cons_succ, List.getElem_cons_zero, List.setIfInBounds_toArray, List.set_cons_zero, List.set_cons_succ])
  refine wpAnyH_ready (rs := [14]) (by kernel_rfl) (by simp) ?_; refine AllReadyH.cons rfl (fun K hK => ?_) AllReadyH.nil; go_simp
  refine hK.out _ _ ((keep3H (HB0.out.on HG5.out) hP4).cells) (fun hHeld => ?_)
  clear hK K
  (try simp only [Act.put, List.getElem_toArray, List.getElem_cons_succ, List.getElem_cons_zero, List.setIfInBounds_toArray, List.set_cons_zero, List.set_cons_succ])
  refine wpAnyH_take (i := 15) (v := ?_) rfl (by kernel_rfl) (by kernel_rfl) (by kernel_rfl) (fun _ _ _ h => h) (Or.inl ⟨by rfl, ?_⟩) (by assumption) ?_; rotate_left; (focus (intro wS hSw; (try dsimp only at hSw); go_simp <;> with_reducible rfl)); (try simp only [Act.put, List.getElem_toArray, List.getElem_cons_succ, List.getElem_cons_zero, List.setIfInBounds_toArray, List.set_cons_zero, List.set_cons_succ])
  refine wpAnyH_done (by kernel_rfl) ?_ _
  (try simp only [Act.put, List.getElem_toArray, List.getElem_cons_succ, List.getElem_cons_zero, List.setIfInBounds_toArray, List.set_cons_zero, List.set_cons_succ])
  go_wp2
  try simp only [Exit.inBlock, Exit.then]
  have hrl := HRL.out
  refine ret_box1 rfl rfl (put4_box (x' := .int .i64 (stN (q && (!st || y)) st n gx)) (y' := .int .i64 (stF (q && (!st || y)) L f)) (z' := (.slice ua un uc)) (u' := (.slice ta tn tc)) HRB.out) Tryz.underlying42 rfl (by kernel_rfl) rfl ?_
  exact ⟨(.slice ua un uc), (.slice ta tn tc), rfl, (HU.out.kept hP4 (.inr (HU.out.off (by omega)))).lower HZ4.out, (HT.out.kept hP4 (.inr (HT.out.off (by omega)))).lower HZ4.out, ApartU.symm HAP.out, grown_new (grownN_trans HB0.out.grown HG5.out) hP4 (fun c h => by injection h with h; omega)⟩

end Go.Proofs.YtonalkamfgpokaaGreat.Day

/- Contracts of the models of Eat and PickUp. Contracts of the program's Eat and PickUp. Contracts of Eat in the form that the exact law uses. -/
import Derived.Test.YtbjnbaddbanhbaaGreatPc
import Derived.Test.YtbjnbaddbanhbaaGreatPa
import Derived.Test.YtbjnbaddbanhbaaGreatPe
namespace Go.Proofs.YtbjnbaddbanhbaaGreat.Pd
open Go.RowKit Kit Rw Rg Crw Four PartyL Pc Pa Mn

def eatB (L : List Mem) (f : Int) : Bool := areCrew L && decide (needOf L ≤ f)
def eatF (L : List Mem) (f : Int) : Int := if eatB L f = true then f - needOf L else f
theorem eatB_no {L : List Mem} {f : Int} (h : areCrew L = false) : eatB L f = false := by unfold eatB; rw [h]; rfl
theorem eatB_few {L : List Mem} {f : Int} (h : f < needOf L) : eatB L f = false := by unfold eatB; rw [decide_eq_false (by omega)]; simp
theorem eatB_yes {L : List Mem} {f : Int} (h : areCrew L = true) (h2 : needOf L ≤ f) : eatB L f = true := by unfold eatB; rw [h, decide_eq_true h2]; rfl
theorem eatF_no {L : List Mem} {f : Int} (h : eatB L f = false) : eatF L f = f := by unfold eatF; rw [h]; rfl
theorem eatF_yes {L : List Mem} {f : Int} (h : eatB L f = true) : eatF L f = f - needOf L := by unfold eatF; rw [h]; rfl

set_option maxRecDepth 20000 in
set_option maxHeartbeats 4000000 in
theorem sEat_any (w : World) (n f : Int) (cv pv : Value) (L : List Mem) (P : List Bool) (hf : (Lit.int .i64 f).wf = true) (hc : SeesG encM w cv L) (hp : SeesG encB w pv P) (hL : L.length ≤ 1000000000) (hP : P.length ≤ 1000000000) :
    Calls Tryz.prog 79 #[.agg #[.int .i64 n, .int .i64 f, cv, pv]] w fun e w' => ∃ u t, e = .returned (.tuple #[.agg #[.int .i64 n, .int .i64 (eatF L f), u, t], .bool (eatB L f)]) ∧ PartyOut w w' u t L P := by
  have g0 := World.grownBy_alloc w (.cells #[.int .i64 n, .int .i64 f, cv, pv] 44 (0, 0)) (none : Option Nat)
  have g1 := World.grownBy_alloc (w.alloc (.cells #[.int .i64 n, .int .i64 f, cv, pv] 44 (0, 0))) (.cells #[.int .i64 0, .int .i64 0, .slice none 0 0, .slice none 0 0] 44 (0, 0)) (none : Option Nat)
  have b0 := (box_new w #[.int .i64 n, .int .i64 f, cv, pv] 44).grown g1
  have b1 := box_new (w.alloc (.cells #[.int .i64 n, .int .i64 f, cv, pv] 44 (0, 0))) #[.int .i64 0, .int .i64 0, .slice none 0 0, .slice none 0 0] 44
  simp only [World.size_alloc] at b1
  have HG := Lib.hid (grownN_trans g0 g1)
  have HC := Lib.hid (hc.grown HG.out)
  have HP := Lib.hid (hp.grown HG.out)
  have B0 := Lib.hid b0
  have B1 := Lib.hid b1
  obtain ⟨c0, c1, c2, c3⟩ := four b0
  have HLL := Lib.hid hL
  have HPP := Lib.hid hP
  have HF := Lib.hid hf
  have hfb := i64_of hf
  clear hc hp g0 g1 b0 b1 hL hP hf
  obtain ⟨q, hq⟩ : ∃ q, q = needOf L := ⟨_, rfl⟩
  have hqb := needOf_bound L
  rw [← hq] at hqb
  have HQ := Lib.hid hq
  have key : (q = 0 ∧ eatB L f = false) ∨ (0 < q ∧ f < q ∧ eatB L f = false) ∨ (0 < q ∧ q ≤ f ∧ eatB L f = true) := by
    cases hcr : areCrew L
    · exact .inl ⟨by rw [hq]; exact needOf_zero hcr, eatB_no hcr⟩
    · have h0 : 0 < q := by rw [hq]; exact needOf_pos hcr
      by_cases h : f < q
      · exact .inr (.inl ⟨h0, h, eatB_few (by omega)⟩)
      · exact .inr (.inr ⟨h0, by omega, eatB_yes hcr (by omega)⟩)
  clear hq
  go_enter Tryz.func79, Tryz.ntmps79
  go_wp2_with fail
  generalize (w.alloc (.cells #[.int .i64 n, .int .i64 f, cv, pv] 44 (0, 0))).alloc (.cells #[.int .i64 0, .int .i64 0, .slice none 0 0, .slice none 0 0] 44 (0, 0)) = W at *
  refine (copy_any W n f cv pv L P HC.out HP.out HLL.out HPP.out).mono ?_
  rintro e w2 ⟨u, t, rfl, ho, hto, hap, hg⟩
  obtain ⟨ua, un, uc, hu, HUN⟩ := ho.sees.shape
  obtain ⟨ta, tn, tc, ht, HTN⟩ := hto.sees.shape
  subst hu
  subst ht
  have g3 := World.grownBy_alloc w2 (.cells #[.int .i64 n, .int .i64 f, .slice ua un uc, .slice ta tn tc] 44 (0, 0)) (none : Option Nat)
  have b4 := box_new w2 #[.int .i64 n, .int .i64 f, .slice ua un uc, .slice ta tn tc] 44
  have hWs : w.heap.size + 1 < W.heap.size := B1.out.lt
  have hW2 : W.heap.size ≤ w2.heap.size := hg.size
  have HO := Lib.hid (ho.grown g3)
  have HTO := Lib.hid (hto.grown g3)
  have HAP := Lib.hid hap
  have HOL := Lib.hid ho.lt
  have HTL := Lib.hid hto.lt
  have HG3 := Lib.hid (grownN_trans hg g3)
  have B3 := Lib.hid b4
  obtain ⟨c0, c1, c2, c3⟩ := four (B0.out.grown HG3.out)
  obtain ⟨d0, d1, d2, d3⟩ := four b4
  clear ho hto hap hg g3 b4
  go_wp2_with fail
  generalize w2.alloc (.cells #[.int .i64 n, .int .i64 f, .slice ua un uc, .slice ta tn tc] 44 (0, 0)) = w3 at *
  refine (CrS.sNeedOf_any _ cv L (HC.out.grown HG3.out)).mono ?_
  rintro e w4 ⟨rfl, hg⟩
  rw [← HQ.out]
  have HG4 := Lib.hid (grownN_trans HG3.out hg)
  have HO4 := Lib.hid (HO.out.grown hg)
  have HTO4 := Lib.hid (HTO.out.grown hg)
  have B4 := Lib.hid (B3.out.grown hg)
  have B14 := Lib.hid (B1.out.grown HG4.out)
  obtain ⟨c0, c1, c2, c3⟩ := four (B0.out.grown HG4.out)
  obtain ⟨d0, d1, d2, d3⟩ := four B4.out
  clear hg
  rcases key with ⟨h0, he⟩ | ⟨h0, h1, he⟩ | ⟨h0, h1, he⟩
  · have HR := Lib.hid (eatF_no he)
    have HE := Lib.hid he
    obtain ⟨⟨p0, r0⟩, ⟨p1, r1⟩, ⟨p2, r2⟩, ⟨p3, r3⟩⟩ := put4_on B14.out (.int .i64 n) (.int .i64 f) (.slice ua un uc) (.slice ta tn tc)
    clear he
    go_wp2
    try simp only [Exit.inBlock, Exit.then]
    have hP4 := put4_grown w4 (w.heap.size + 1) (.int .i64 n) (.int .i64 f) (.slice ua un uc) (.slice ta tn tc)
    refine ret_box1 rfl rfl (put4_box (x' := .int .i64 n) (y' := .int .i64 f) (z' := (.slice ua un uc)) (u' := (.slice ta tn tc)) B14.out) Tryz.underlying44 rfl (by kernel_rfl) rfl ?_
    rw [HR.out, HE.out]
    exact ⟨(.slice ua un uc), (.slice ta tn tc), rfl, (HO4.out.kept hP4 (.inr (HO4.out.off (by omega)))).lower (by omega), (HTO4.out.kept hP4 (.inr (HTO4.out.off (by omega)))).lower (by omega), HAP.out, grown_new (grownN_trans HG.out HG4.out) hP4 (fun c h => by injection h with h; omega)⟩
  · have HR := Lib.hid (eatF_no he)
    have HE := Lib.hid he
    have h2 : ¬ q = 0 := by omega
    obtain ⟨⟨p0, r0⟩, ⟨p1, r1⟩, ⟨p2, r2⟩, ⟨p3, r3⟩⟩ := put4_on B14.out (.int .i64 n) (.int .i64 f) (.slice ua un uc) (.slice ta tn tc)
    clear he
    go_wp2
    try simp only [Exit.inBlock, Exit.then]
    have hP4 := put4_grown w4 (w.heap.size + 1) (.int .i64 n) (.int .i64 f) (.slice ua un uc) (.slice ta tn tc)
    refine ret_box1 rfl rfl (put4_box (x' := .int .i64 n) (y' := .int .i64 f) (z' := (.slice ua un uc)) (u' := (.slice ta tn tc)) B14.out) Tryz.underlying44 rfl (by kernel_rfl) rfl ?_
    rw [HR.out, HE.out]
    exact ⟨(.slice ua un uc), (.slice ta tn tc), rfl, (HO4.out.kept hP4 (.inr (HO4.out.off (by omega)))).lower (by omega), (HTO4.out.kept hP4 (.inr (HTO4.out.off (by omega)))).lower (by omega), HAP.out, grown_new (grownN_trans HG.out HG4.out) hP4 (fun c h => by injection h with h; omega)⟩
  · have HR : Hid (eatF L f = f - q) := (eatF_yes he).trans (by rw [HQ.out])
    have HE := Lib.hid he
    have h2 : ¬ q = 0 := by omega
    have h3 : ¬ f < q := by omega
    have h4 : (q == 0) = false := by simp; omega
    have hw : IntKind.i64.wrap (f - q) = f - q := IntWalk.i64_in _ (by omega)
    have hset := grown_set w4 w2.heap.size 1 (.int .i64 (f - q))
    have B5 := Lib.hid (four_set1 (v := .int .i64 (f - q)) B4.out)
    have f4 := B4.out.free 1
    have hs2 : (⟨w.heap.size + 1, 0, none⟩ : Addr).block ≠ w2.heap.size := by show w.heap.size + 1 ≠ _; omega
    have B15 := Lib.hid (B14.out.kept hset (by intro e; injection e with e; omega))
    have HO5 := Lib.hid (HO4.out.kept hset (.inr (fun e => by have := (HOL.out _ e).2; omega)))
    have HTO5 := Lib.hid (HTO4.out.kept hset (.inr (fun e => by have := (HTL.out _ e).2; omega)))
    have HG5 := Lib.hid (grown_new (grownN_trans HG.out HG4.out) hset (fun c h => by injection h with h; omega))
    obtain ⟨e0, e1, e2, e3⟩ := four B5.out
    obtain ⟨⟨p0, r0⟩, ⟨p1, r1⟩, ⟨p2, r2⟩, ⟨p3, r3⟩⟩ := put4_on B15.out (.int .i64 n) (.int .i64 (f - q)) (.slice ua un uc) (.slice ta tn tc)
    clear he hset hs2
    go_wp2
    try simp only [Exit.inBlock, Exit.then]
    have hP4 := put4_grown (w4.setCell ⟨w2.heap.size, 1, none⟩ (.int .i64 (f - q))) (w.heap.size + 1) (.int .i64 n) (.int .i64 (f - q)) (.slice ua un uc) (.slice ta tn tc)
    refine ret_box1 rfl rfl (put4_box (x' := .int .i64 n) (y' := .int .i64 (f - q)) (z' := (.slice ua un uc)) (u' := (.slice ta tn tc)) B15.out) Tryz.underlying44 rfl (by kernel_rfl) rfl ?_
    rw [HR.out, HE.out]
    exact ⟨(.slice ua un uc), (.slice ta tn tc), rfl, (HO5.out.kept hP4 (.inr (HO5.out.off (by omega)))).lower (by omega), (HTO5.out.kept hP4 (.inr (HTO5.out.off (by omega)))).lower (by omega), HAP.out, grown_new HG5.out hP4 (fun c h => by injection h with h; omega)⟩
end Go.Proofs.YtbjnbaddbanhbaaGreat.Pd

namespace Go.Proofs.YtbjnbaddbanhbaaGreat.Pf
open Go.RowKit Kit Rw Rg Crw Four PartyL Pc Pa Pd Pe Mn

set_option maxRecDepth 20000 in
set_option maxHeartbeats 4000000 in
theorem iEat_any (w : World) (n f : Int) (cv pv : Value) (L : List Mem) (P : List Bool) (hf : (Lit.int .i64 f).wf = true) (hc : SeesG encM w cv L) (hp : SeesG encB w pv P) (hL : L.length ≤ 1000000000) (hP : P.length ≤ 1000000000) :
    Calls Tryz.prog 134 #[.agg #[.int .i64 n, .int .i64 f, cv, pv]] w fun e w' => ∃ u t, e = .returned (.tuple #[.agg #[.int .i64 n, .int .i64 (eatF L f), u, t], .bool (eatB L f)]) ∧ PartyOut w w' u t L P := by
  have g0 := World.grownBy_alloc w (.cells #[.int .i64 n, .int .i64 f, cv, pv] 44 (0, 0)) (none : Option Nat)
  have g1 := World.grownBy_alloc (w.alloc (.cells #[.int .i64 n, .int .i64 f, cv, pv] 44 (0, 0))) (.cells #[.int .i64 0, .int .i64 0, .slice none 0 0, .slice none 0 0] 44 (0, 0)) (none : Option Nat)
  have b0 := (box_new w #[.int .i64 n, .int .i64 f, cv, pv] 44).grown g1
  have b1 := box_new (w.alloc (.cells #[.int .i64 n, .int .i64 f, cv, pv] 44 (0, 0))) #[.int .i64 0, .int .i64 0, .slice none 0 0, .slice none 0 0] 44
  simp only [World.size_alloc] at b1
  have HG := Lib.hid (grownN_trans g0 g1)
  have HC := Lib.hid (hc.grown HG.out)
  have HP := Lib.hid (hp.grown HG.out)
  have B0 := Lib.hid b0
  have B1 := Lib.hid b1
  obtain ⟨c0, c1, c2, c3⟩ := four b0
  have HLL := Lib.hid hL
  have HPP := Lib.hid hP
  have HF := Lib.hid hf
  have hfb := i64_of hf
  clear hc hp g0 g1 b0 b1 hL hP hf
  obtain ⟨q, hq⟩ : ∃ q, q = needOf L := ⟨_, rfl⟩
  have hqb := needOf_bound L
  rw [← hq] at hqb
  have HQ := Lib.hid hq
  have hA := fun w' hs => CrI.iAreCrew_any w' cv L hs
  have key : (areCrew L = false ∧ eatB L f = false) ∨ (areCrew L = true ∧ f < q ∧ eatB L f = false) ∨ (areCrew L = true ∧ q ≤ f ∧ 0 < q ∧ eatB L f = true) := by
    cases hcr : areCrew L
    · exact .inl ⟨rfl, eatB_no hcr⟩
    · have h0 : 0 < q := by rw [hq]; exact needOf_pos hcr
      by_cases h : f < q
      · exact .inr (.inl ⟨rfl, h, eatB_few (by omega)⟩)
      · exact .inr (.inr ⟨rfl, by omega, h0, eatB_yes hcr (by omega)⟩)
  clear hq
  go_enter Tryz.func134, Tryz.ntmps134
  go_wp2_with fail
  generalize (w.alloc (.cells #[.int .i64 n, .int .i64 f, cv, pv] 44 (0, 0))).alloc (.cells #[.int .i64 0, .int .i64 0, .slice none 0 0, .slice none 0 0] 44 (0, 0)) = W at *
  refine (CrI.iNeedOf_any W cv L HC.out).mono ?_
  rintro e w2 ⟨rfl, hg⟩
  rw [← HQ.out]
  have HG2 := Lib.hid hg
  have HC2 := Lib.hid (HC.out.grown hg)
  obtain ⟨c0, c1, c2, c3⟩ := four (B0.out.grown hg)
  clear hg
  rcases key with ⟨hcr, he⟩ | ⟨hcr, h1, he⟩ | ⟨hcr, h1, h0, he⟩
  · simp only [hcr] at hA
    have HA := Lib.hid hA
    clear hA hcr
    have HR := Lib.hid (eatF_no he)
    have HE := Lib.hid he
    clear he
    go_wp2_with fail
    refine (HA.out _ HC2.out).mono ?_
    rintro e w3 ⟨rfl, hg⟩
    have HG3 := Lib.hid (grownN_trans HG2.out hg)
    obtain ⟨c0, c1, c2, c3⟩ := four (B0.out.grown HG3.out)
    clear hg
    go_wp2_with fail
    refine (from_any w3 n f f cv pv (.slice none 0 0) 0 L P (HC.out.grown HG3.out) (HP.out.grown HG3.out) HLL.out HPP.out (.inl ⟨rfl, rfl, rfl⟩)).mono ?_
    rintro e w4 ⟨u, t, rfl, ho, hto, hap, hg⟩
    obtain ⟨ua, un, uc, hu, HUN⟩ := ho.sees.shape
    obtain ⟨ta, tn, tc, ht, HTN⟩ := hto.sees.shape
    subst hu
    subst ht
    have HG4 := Lib.hid (grownN_trans HG3.out hg)
    have HO4 := Lib.hid ho
    have HTO4 := Lib.hid hto
    have HAP := Lib.hid hap
    have B14 := Lib.hid (B1.out.grown HG4.out)
    have hWs := B1.out.lt
    have hW3 := HG3.out.size
    obtain ⟨⟨p0, r0⟩, ⟨p1, r1⟩, ⟨p2, r2⟩, ⟨p3, r3⟩⟩ := put4_on B14.out (.int .i64 n) (.int .i64 (f)) (.slice ua un uc) (.slice ta tn tc)
    clear ho hto hap hg
    go_wp2
    try simp only [Exit.inBlock, Exit.then]
    have hP4 := put4_grown w4 (w.heap.size + 1) (.int .i64 n) (.int .i64 (f)) (.slice ua un uc) (.slice ta tn tc)
    refine ret_box1 rfl rfl (put4_box (x' := .int .i64 n) (y' := .int .i64 (f)) (z' := (.slice ua un uc)) (u' := (.slice ta tn tc)) B14.out) Tryz.underlying44 rfl (by kernel_rfl) rfl ?_
    rw [HR.out, HE.out]
    exact ⟨(.slice ua un uc), (.slice ta tn tc), rfl, (HO4.out.kept hP4 (.inr (HO4.out.off (by omega)))).lower (by omega), (HTO4.out.kept hP4 (.inr (HTO4.out.off (by omega)))).lower (by omega), HAP.out, grown_new (grownN_trans HG.out HG4.out) hP4 (fun c h => by injection h with h; omega)⟩
  · simp only [hcr] at hA
    have HA := Lib.hid hA
    clear hA hcr
    have HR := Lib.hid (eatF_no he)
    have HE := Lib.hid he
    clear he
    go_wp2_with fail
    refine (HA.out _ HC2.out).mono ?_
    rintro e w3 ⟨rfl, hg⟩
    have HG3 := Lib.hid (grownN_trans HG2.out hg)
    obtain ⟨c0, c1, c2, c3⟩ := four (B0.out.grown HG3.out)
    clear hg
    go_wp2_with fail
    refine (from_any w3 n f f cv pv (.slice none 0 0) 0 L P (HC.out.grown HG3.out) (HP.out.grown HG3.out) HLL.out HPP.out (.inl ⟨rfl, rfl, rfl⟩)).mono ?_
    rintro e w4 ⟨u, t, rfl, ho, hto, hap, hg⟩
    obtain ⟨ua, un, uc, hu, HUN⟩ := ho.sees.shape
    obtain ⟨ta, tn, tc, ht, HTN⟩ := hto.sees.shape
    subst hu
    subst ht
    have HG4 := Lib.hid (grownN_trans HG3.out hg)
    have HO4 := Lib.hid ho
    have HTO4 := Lib.hid hto
    have HAP := Lib.hid hap
    have B14 := Lib.hid (B1.out.grown HG4.out)
    have hWs := B1.out.lt
    have hW3 := HG3.out.size
    obtain ⟨⟨p0, r0⟩, ⟨p1, r1⟩, ⟨p2, r2⟩, ⟨p3, r3⟩⟩ := put4_on B14.out (.int .i64 n) (.int .i64 (f)) (.slice ua un uc) (.slice ta tn tc)
    clear ho hto hap hg
    go_wp2
    try simp only [Exit.inBlock, Exit.then]
    have hP4 := put4_grown w4 (w.heap.size + 1) (.int .i64 n) (.int .i64 (f)) (.slice ua un uc) (.slice ta tn tc)
    refine ret_box1 rfl rfl (put4_box (x' := .int .i64 n) (y' := .int .i64 (f)) (z' := (.slice ua un uc)) (u' := (.slice ta tn tc)) B14.out) Tryz.underlying44 rfl (by kernel_rfl) rfl ?_
    rw [HR.out, HE.out]
    exact ⟨(.slice ua un uc), (.slice ta tn tc), rfl, (HO4.out.kept hP4 (.inr (HO4.out.off (by omega)))).lower (by omega), (HTO4.out.kept hP4 (.inr (HTO4.out.off (by omega)))).lower (by omega), HAP.out, grown_new (grownN_trans HG.out HG4.out) hP4 (fun c h => by injection h with h; omega)⟩
  · simp only [hcr] at hA
    have HA := Lib.hid hA
    have HR : Hid (eatF L f = f - q) := (eatF_yes he).trans (by rw [HQ.out])
    have HE := Lib.hid he
    have h3 : ¬ f < q := by omega
    have hw : IntKind.i64.wrap (f - q) = f - q := IntWalk.i64_in _ (by omega)
    clear hA hcr he
    go_wp2_with fail
    refine (HA.out _ HC2.out).mono ?_
    rintro e w3 ⟨rfl, hg⟩
    have HG3 := Lib.hid (grownN_trans HG2.out hg)
    obtain ⟨c0, c1, c2, c3⟩ := four (B0.out.grown HG3.out)
    clear hg
    go_wp2_with fail
    have hkeep : ∀ w', W.grownBy w' none → (w'.cell? ⟨w.heap.size, 0, none⟩ = some (.int .i64 n) ∧ w'.cell? ⟨w.heap.size, 1, none⟩ = some (.int .i64 f) ∧ w'.cell? ⟨w.heap.size, 2, none⟩ = some cv ∧ w'.cell? ⟨w.heap.size, 3, none⟩ = some pv) := fun w' g => four (B0.out.grown g)
    have hd := grownN_trans HG3.out (grown_drew (World.grownBy.refl w3 none))
    refine wp_region_held_drew (S := fun w' => w'.cell? ⟨w.heap.size, 0, none⟩ = some (.int .i64 n) ∧ w'.cell? ⟨w.heap.size, 1, none⟩ = some (.int .i64 f) ∧ w'.cell? ⟨w.heap.size, 2, none⟩ = some cv ∧ w'.cell? ⟨w.heap.size, 3, none⟩ = some pv) (by kernel_rfl) (hkeep _ hd) (fun hHeld => ?_)
    have HWX0 := Lib.hid hd
    clear hd
    generalize w3.drew = X0 at *
    refine wpAnyH_take (i := 0) (v := ?_) rfl (by kernel_rfl) (by kernel_rfl) (by kernel_rfl) (fun _ _ _ h => h) (Or.inl ⟨by rfl, ?_⟩) (by assumption) ?_; rotate_left; (focus (intro wS hSw; (try dsimp only at hSw); go_simp <;> with_reducible rfl)); (try simp only [Act.put, List.getElem_toArray, List.getElem_cons_succ, List.getElem_cons_zero, List.setIfInBounds_toArray, List.set_cons_zero, List.set_cons_succ])
    refine wpAnyH_take (i := 1) (v := ?_) rfl (by kernel_rfl) (by kernel_rfl) (by kernel_rfl) (fun _ _ _ h => h) (Or.inl ⟨by rfl, ?_⟩) (by assumption) ?_; rotate_left; (focus (intro wS hSw; (try dsimp only at hSw); go_simp <;> with_reducible rfl)); (try simp only [Act.put, List.getElem_toArray, List.getElem_cons_succ, List.getElem_cons_zero, List.setIfInBounds_toArray, List.set_cons_zero, List.set_cons_succ])
    refine wpAnyH_take (i := 2) (v := ?_) rfl (by kernel_rfl) (by kernel_rfl) (by kernel_rfl) (fun _ _ _ h => h) (Or.inl ⟨by rfl, ?_⟩) (by assumption) ?_; rotate_left; (focus (intro wS hSw; (try dsimp only at hSw); go_simp <;> with_reducible rfl)); (try simp only [Act.put, List.getElem_toArray, List.getElem_cons_succ, List.getElem_cons_zero, List.setIfInBounds_toArray, List.set_cons_zero, List.set_cons_succ])
    refine wpAnyH_take (i := 3) (v := ?_) rfl (by kernel_rfl) (by kernel_rfl) (by kernel_rfl) (fun _ _ _ h => h) (Or.inl ⟨by rfl, ?_⟩) (by assumption) ?_; rotate_left; (focus (intro wS hSw; (try dsimp only at hSw); go_simp <;> with_reducible rfl)); (try simp only [Act.put, List.getElem_toArray, List.getElem_cons_succ, List.getElem_cons_zero, List.setIfInBounds_toArray, List.set_cons_zero, List.set_cons_succ])
    refine wpAnyH_take (i := 4) (v := ?_) rfl (by kernel_rfl) (by kernel_rfl) (by kernel_rfl) (fun _ _ _ h => h) (Or.inl ⟨by rfl, ?_⟩) (by assumption) ?_; rotate_left; (focus (intro wS hSw; (try dsimp only at hSw); go_simp <;> with_reducible rfl)); (try simp only [Act.put, List.getElem_toArray, List.getElem_cons_succ, List.getElem_cons_zero, List.setIfInBounds_toArray, List.set_cons_zero, List.set_cons_succ])
    refine wpAnyH_ready (rs := [5]) (by kernel_rfl) (by simp) ?_
    refine AllReadyH.cons rfl (fun K hK => ?_) AllReadyH.nil
    go_simp
    go_at_call 131
    (try rw [hw])
    refine (with_any X0 (f - q)).mono ?_
    rintro e w5 ⟨rfl, rfl⟩
    have g5 := World.grownBy_alloc X0 (.cells #[.int .i64 (f - q)] 3 (0, 0)) (none : Option Nat)
    have hb5 := box_new X0 #[.int .i64 (f - q)] 3
    generalize X0.alloc (.cells #[.int .i64 (f - q)] 3 (0, 0)) = X1 at *
    generalize X0.heap.size = cb at *
    have HWX1 := Lib.hid (grownN_trans HWX0.out g5)
    have HB5 := Lib.hid hb5
    refine hK.out _ _ ?_ (fun hHeld => ?_)
    · exact hkeep _ HWX1.out
    clear hK K g5 hb5
    (try simp only [Act.put, List.getElem_toArray, List.getElem_cons_succ, List.getElem_cons_zero, List.setIfInBounds_toArray, List.set_cons_zero, List.set_cons_succ])
    refine wpAnyH_ready (rs := [6]) (by kernel_rfl) (by simp) ?_
    refine AllReadyH.cons rfl (fun K hK => ?_) AllReadyH.nil
    go_simp
    have g6 := World.grownBy_alloc X1 (.cells #[.func (.func 167) #[] #[.pointer (some ⟨cb, 0, none⟩)]] 141 (0, 0)) (none : Option Nat)
    have hb6 := box_new X1 #[.func (.func 167) #[] #[.pointer (some ⟨cb, 0, none⟩)]] 141
    generalize X1.alloc (.cells #[.func (.func 167) #[] #[.pointer (some ⟨cb, 0, none⟩)]] 141 (0, 0)) = X2 at *
    generalize X1.heap.size = gb at *
    have HWX2 := Lib.hid (grownN_trans HWX1.out g6)
    have HB6 := Lib.hid hb6
    have HB52 := Lib.hid (HB5.out.grown g6)
    refine hK.out _ _ ?_ (fun hHeld => ?_)
    · exact hkeep _ HWX2.out
    clear hK K g6 hb6
    (try simp only [Act.put, List.getElem_toArray, List.getElem_cons_succ, List.getElem_cons_zero, List.setIfInBounds_toArray, List.set_cons_zero, List.set_cons_succ])
    refine wpAnyH_ready (rs := [7]) (by kernel_rfl) (by simp) ?_
    refine AllReadyH.cons rfl (fun K hK => ?_) AllReadyH.nil
    go_simp
    go_at_call 83
    refine (from_any X2 n f (f - q) cv pv (.slice (some ⟨gb, 0, none⟩) 1 1) 1 L P (HC.out.grown HWX2.out) (HP.out.grown HWX2.out) HLL.out HPP.out (.inr ⟨gb, cb, 1, rfl, rfl, HB52.out, HB6.out⟩)).mono ?_
    rintro e w4 ⟨u, t, rfl, ho, hto, hap, hg⟩
    obtain ⟨ua, un, uc, hu, HUN⟩ := ho.sees.shape
    obtain ⟨ta, tn, tc, ht, HTN⟩ := hto.sees.shape
    subst hu
    subst ht
    have HG4 := Lib.hid (grownN_trans HWX2.out hg)
    have HO4 := Lib.hid ho
    have HTO4 := Lib.hid hto
    have HAP := Lib.hid hap
    have B14 := Lib.hid (B1.out.grown HG4.out)
    have hWs := B1.out.lt
    have hW3 := HWX2.out.size
    obtain ⟨⟨p0, r0⟩, ⟨p1, r1⟩, ⟨p2, r2⟩, ⟨p3, r3⟩⟩ := put4_on B14.out (.int .i64 n) (.int .i64 (f - q)) (.slice ua un uc) (.slice ta tn tc)
    clear ho hto hap hg
    refine hK.out _ _ ?_ (fun hHeld => ?_)
    · exact hkeep _ HG4.out
    clear hK K
    (try simp only [Act.put, List.getElem_toArray, List.getElem_cons_succ, List.getElem_cons_zero, List.setIfInBounds_toArray, List.set_cons_zero, List.set_cons_succ])
    refine wpAnyH_ready (rs := [8]) (by kernel_rfl) (by simp) ?_
    refine AllReadyH.cons rfl (fun K hK => ?_) AllReadyH.nil
    go_simp
    have hP4 := put4_grown w4 (w.heap.size + 1) (.int .i64 n) (.int .i64 (f - q)) (.slice ua un uc) (.slice ta tn tc)
    refine hK.out _ _ ?_ (fun hHeld => ?_)
    · exact four ((B0.out.grown HG4.out).kept hP4 (by intro e; injection e with e; omega))
    clear hK K hP4
    (try simp only [Act.put, List.getElem_toArray, List.getElem_cons_succ, List.getElem_cons_zero, List.setIfInBounds_toArray, List.set_cons_zero, List.set_cons_succ])
    refine wpAnyH_take (i := 9) (v := ?_) rfl (by kernel_rfl) (by kernel_rfl) (by kernel_rfl) (fun _ _ _ h => h) (Or.inl ⟨by rfl, ?_⟩) (by assumption) ?_; rotate_left; (focus (intro wS hSw; (try dsimp only at hSw); go_simp <;> with_reducible rfl)); (try simp only [Act.put, List.getElem_toArray, List.getElem_cons_succ, List.getElem_cons_zero, List.setIfInBounds_toArray, List.set_cons_zero, List.set_cons_succ])
    refine wpAnyH_done (by kernel_rfl) ?_ _
    (try simp only [Act.put, List.getElem_toArray, List.getElem_cons_succ, List.getElem_cons_zero, List.setIfInBounds_toArray, List.set_cons_zero, List.set_cons_succ])
    go_wp2
    try simp only [Exit.inBlock, Exit.then]
    have hP4 := put4_grown w4 (w.heap.size + 1) (.int .i64 n) (.int .i64 (f - q)) (.slice ua un uc) (.slice ta tn tc)
    refine ret_box1 rfl rfl (put4_box (x' := .int .i64 n) (y' := .int .i64 (f - q)) (z' := (.slice ua un uc)) (u' := (.slice ta tn tc)) B14.out) Tryz.underlying44 rfl (by kernel_rfl) rfl ?_
    rw [HR.out, HE.out]
    exact ⟨(.slice ua un uc), (.slice ta tn tc), rfl, (HO4.out.kept hP4 (.inr (HO4.out.off (by omega)))).lower (by omega), (HTO4.out.kept hP4 (.inr (HTO4.out.off (by omega)))).lower (by omega), HAP.out, grown_new (grownN_trans HG.out HG4.out) hP4 (fun c h => by injection h with h; omega)⟩
end Go.Proofs.YtbjnbaddbanhbaaGreat.Pf

namespace Go.Proofs.YtbjnbaddbanhbaaGreat.Pg
open Go.RowKit Kit Rw Rg Crw Four PartyL Pc Pa Pd Pe Pf Mn

theorem sEatL (w : World) (n f : Int) (cv pv : Value) (L : List Mem) (P : List Bool) (hf : (Lit.int .i64 f).wf = true) (hc : SeesG encM w cv L) (hp : SeesG encB w pv P) (hL : L.length ≤ 1000000000) (hP : P.length ≤ 1000000000) :
    Calls Tryz.prog 79 #[.agg #[.int .i64 n, .int .i64 f, cv, pv]] w fun e w' => ∃ u t, e = .returned (.tuple #[.agg #[.int .i64 n, .int .i64 (eatF L f), u, t], .bool (eatB L f)]) ∧ OwnG encM 117 w' w.heap.size u L ∧ OwnG encB 4 w' w.heap.size t P ∧ Apart t u ∧ w.grownBy w' none :=
  (sEat_any w n f cv pv L P hf hc hp hL hP).mono fun _ _ ⟨u, t, h, ho, ht, ha, hg⟩ => ⟨u, t, h, ho, ht, ha.symm, hg⟩
theorem iEatL (w : World) (n f : Int) (cv pv : Value) (L : List Mem) (P : List Bool) (hf : (Lit.int .i64 f).wf = true) (hc : SeesG encM w cv L) (hp : SeesG encB w pv P) (hL : L.length ≤ 1000000000) (hP : P.length ≤ 1000000000) :
    Calls Tryz.prog 134 #[.agg #[.int .i64 n, .int .i64 f, cv, pv]] w fun e w' => ∃ u t, e = .returned (.tuple #[.agg #[.int .i64 n, .int .i64 (eatF L f), u, t], .bool (eatB L f)]) ∧ OwnG encM 117 w' w.heap.size u L ∧ OwnG encB 4 w' w.heap.size t P ∧ Apart t u ∧ w.grownBy w' none :=
  (iEat_any w n f cv pv L P hf hc hp hL hP).mono fun _ _ ⟨u, t, h, ho, ht, ha, hg⟩ => ⟨u, t, h, ho, ht, ha.symm, hg⟩
end Go.Proofs.YtbjnbaddbanhbaaGreat.Pg

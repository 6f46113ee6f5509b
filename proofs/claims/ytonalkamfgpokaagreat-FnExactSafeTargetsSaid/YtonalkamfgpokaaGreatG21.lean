/- Contracts of the program's Eat and PickUp. Contracts of PickUp of the program and of its model. Contracts of Eat in the form that the exact law uses. The answer of the worst return, as a plain function. -/
import Derived.Test.YtonalkamfgpokaaGreatG17
import Derived.Test.YtonalkamfgpokaaGreatG20
import Derived.Test.YtonalkamfgpokaaGreatG15
import Derived.Test.YtonalkamfgpokaaGreatG16
namespace Go.Proofs.YtonalkamfgpokaaGreat.Pf
open Go.RowKit Kit Rw Rg Crw Four PartyL Pc Pa Pd Pe Mn

set_option maxRecDepth 20000 in
set_option maxHeartbeats 4000000 in
theorem iEat_any (w : World) (n f : Int) (cv pv : Value) (L : List Mem) (P : List Bool) (hf : (Lit.int .i64 f).wf = true) (hc : SeesG encM w cv L) (hp : SeesG encB w pv P) (hL : L.length ≤ 1000000000) (hP : P.length ≤ 1000000000) :
    Calls Tryz.prog 157 #[.agg #[.int .i64 n, .int .i64 f, cv, pv]] w fun e w' => ∃ u t, e = .returned (.tuple #[.agg #[.int .i64 n, .int .i64 (eatF L f), u, t], .bool (eatB L f)]) ∧ PartyOut w w' u t L P := by
  have g0 := World.grownBy_alloc w (.cells #[.int .i64 n, .int .i64 f, cv, pv] 42 (0, 0)) (none : Option Nat)
  have g1 := World.grownBy_alloc (w.alloc (.cells #[.int .i64 n, .int .i64 f, cv, pv] 42 (0, 0))) (.cells #[.int .i64 0, .int .i64 0, .slice none 0 0, .slice none 0 0] 42 (0, 0)) (none : Option Nat)
  have b0 := (box_new w #[.int .i64 n, .int .i64 f, cv, pv] 42).grown g1
  have b1 := box_new (w.alloc (.cells #[.int .i64 n, .int .i64 f, cv, pv] 42 (0, 0))) #[.int .i64 0, .int .i64 0, .slice none 0 0, .slice none 0 0] 42
  simp only [World.size_alloc] at b1
  have HG := Lib.hid (grownN_trans g0 g1)
  have HC := Lib.hid (hc.grown HG.out)
  have HP := Lib.hid (hp.grown HG.out)
  have B0 := Lib.hid b0
  have B1 := Lib.hid b1
  obtain ⟨c0, c1, c2, c3⟩ := four b0
  have HLL := Lib.hid hL
  have HPP := Lib.hid hP
  have HF := Lib.hid hf
  have hfb := i64_of hf
  clear hc hp g0 g1 b0 b1 hL hP hf
  obtain ⟨q, hq⟩ : ∃ q, q = needOf L := ⟨_, rfl⟩
  have hqb := needOf_bound L
  rw [← hq] at hqb
  have HQ := Lib.hid hq
  have hA := fun w' hs => CrI.iAreCrew_any w' cv L hs
  have key : (areCrew L = false ∧ eatB L f = false) ∨ (areCrew L = true ∧ f < q ∧ eatB L f = false) ∨ (areCrew L = true ∧ q ≤ f ∧ 0 < q ∧ eatB L f = true) := by
    cases hcr : areCrew L
    · exact .inl ⟨rfl, eatB_no hcr⟩
    · have h0 : 0 < q := by rw [hq]; exact needOf_pos hcr
      by_cases h : f < q
      · exact .inr (.inl ⟨rfl, h, eatB_few (by omega)⟩)
      · exact .inr (.inr ⟨rfl, by omega, h0, eatB_yes hcr (by omega)⟩)
  clear hq
  go_enter Tryz.func157, Tryz.ntmps157
  go_wp2_with fail
  generalize (w.alloc (.cells #[.int .i64 n, .int .i64 f, cv, pv] 42 (0, 0))).alloc (.cells #[.int .i64 0, .int .i64 0, .slice none 0 0, .slice none 0 0] 42 (0, 0)) = W at *
  refine (CrI.iNeedOf_any W cv L HC.out).mono ?_
  rintro e w2 ⟨rfl, hg⟩
  rw [← HQ.out]
  have HG2 := Lib.hid hg
  have HC2 := Lib.hid (HC.out.grown hg)
  obtain ⟨c0, c1, c2, c3⟩ := four (B0.out.grown hg)
  clear hg
  rcases key with ⟨hcr, he⟩ | ⟨hcr, h1, he⟩ | ⟨hcr, h1, h0, he⟩
  · simp only [hcr] at hA
    have HA := Lib.hid hA
    clear hA hcr
    have HR := Lib.hid (eatF_no he)
    have HE := Lib.hid he
    clear he
    go_wp2_with fail
    refine (HA.out _ HC2.out).mono ?_
    rintro e w3 ⟨rfl, hg⟩
    have HG3 := Lib.hid (grownN_trans HG2.out hg)
    obtain ⟨c0, c1, c2, c3⟩ := four (B0.out.grown HG3.out)
    clear hg
    go_wp2_with fail
    refine (from_any w3 n f f cv pv (.slice none 0 0) 0 L P (HC.out.grown HG3.out) (HP.out.grown HG3.out) HLL.out HPP.out (.inl ⟨rfl, rfl, rfl⟩)).mono ?_
    rintro e w4 ⟨u, t, rfl, ho, hto, hap, hg⟩
    obtain ⟨ua, un, uc, hu, HUN⟩ := ho.sees.shape
    obtain ⟨ta, tn, tc, ht, HTN⟩ := hto.sees.shape
    subst hu
    subst ht
    have HG4 := Lib.hid (grownN_trans HG3.out hg)
    have HO4 := Lib.hid ho
    have HTO4 := Lib.hid hto
    have HAP := Lib.hid hap
    have B14 := Lib.hid (B1.out.grown HG4.out)
    have hWs := B1.out.lt
    have hW3 := HG3.out.size
    obtain ⟨⟨p0, r0⟩, ⟨p1, r1⟩, ⟨p2, r2⟩, ⟨p3, r3⟩⟩ := put4_on B14.out (.int .i64 n) (.int .i64 (f)) (.slice ua un uc) (.slice ta tn tc)
    clear ho hto hap hg
    go_wp2
    try simp only [Exit.inBlock, Exit.then]
    have hP4 := put4_grown w4 (w.heap.size + 1) (.int .i64 n) (.int .i64 (f)) (.slice ua un uc) (.slice ta tn tc)
    refine ret_box1 rfl rfl (put4_box (x' := .int .i64 n) (y' := .int .i64 (f)) (z' := (.slice ua un uc)) (u' := (.slice ta tn tc)) B14.out) Tryz.underlying42 rfl (by kernel_rfl) rfl ?_
    rw [HR.out, HE.out]
    exact ⟨(.slice ua un uc), (.slice ta tn tc), rfl, (HO4.out.kept hP4 (.inr (HO4.out.off (by omega)))).lower (by omega), (HTO4.out.kept hP4 (.inr (HTO4.out.off (by omega)))).lower (by omega), HAP.out, grown_new (grownN_trans HG.out HG4.out) hP4 (fun c h => by injection h with h; omega)⟩
  · simp only [hcr] at hA
    have HA := Lib.hid hA
    clear hA hcr
    have HR := Lib.hid (eatF_no he)
    have HE := Lib.hid he
    clear he
    go_wp2_with fail
    refine (HA.out _ HC2.out).mono ?_
    rintro e w3 ⟨rfl, hg⟩
    have HG3 := Lib.hid (grownN_trans HG2.out hg)
    obtain ⟨c0, c1, c2, c3⟩ := four (B0.out.grown HG3.out)
    clear hg
    go_wp2_with fail
    refine (from_any w3 n f f cv pv (.slice none 0 0) 0 L P (HC.out.grown HG3.out) (HP.out.grown HG3.out) HLL.out HPP.out (.inl ⟨rfl, rfl, rfl⟩)).mono ?_
    rintro e w4 ⟨u, t, rfl, ho, hto, hap, hg⟩
    obtain ⟨ua, un, uc, hu, HUN⟩ := ho.sees.shape
    obtain ⟨ta, tn, tc, ht, HTN⟩ := hto.sees.shape
    subst hu
    subst ht
    have HG4 := Lib.hid (grownN_trans HG3.out hg)
    have HO4 := Lib.hid ho
    have HTO4 := Lib.hid hto
    have HAP := Lib.hid hap
    have B14 := Lib.hid (B1.out.grown HG4.out)
    have hWs := B1.out.lt
    have hW3 := HG3.out.size
    obtain ⟨⟨p0, r0⟩, ⟨p1, r1⟩, ⟨p2, r2⟩, ⟨p3, r3⟩⟩ := put4_on B14.out (.int .i64 n) (.int .i64 (f)) (.slice ua un uc) (.slice ta tn tc)
    clear ho hto hap hg
    go_wp2
    try simp only [Exit.inBlock, Exit.then]
    have hP4 := put4_grown w4 (w.heap.size + 1) (.int .i64 n) (.int .i64 (f)) (.slice ua un uc) (.slice ta tn tc)
    refine ret_box1 rfl rfl (put4_box (x' := .int .i64 n) (y' := .int .i64 (f)) (z' := (.slice ua un uc)) (u' := (.slice ta tn tc)) B14.out) Tryz.underlying42 rfl (by kernel_rfl) rfl ?_
    rw [HR.out, HE.out]
    exact ⟨(.slice ua un uc), (.slice ta tn tc), rfl, (HO4.out.kept hP4 (.inr (HO4.out.off (by omega)))).lower (by omega), (HTO4.out.kept hP4 (.inr (HTO4.out.off (by omega)))).lower (by omega), HAP.out, grown_new (grownN_trans HG.out HG4.out) hP4 (fun c h => by injection h with h; omega)⟩
  · simp only [hcr] at hA
    have HA := Lib.hid hA
    have HR : Hid (eatF L f = f - q) := (eatF_yes he).trans (by rw [HQ.out])
    have HE := Lib.hid he
    have h3 : ¬ f < q := by omega
    have hw : IntKind.i64.wrap (f - q) = f - q := IntWalk.i64_in _ (by omega)
    clear hA hcr he
    go_wp2_with fail
    refine (HA.out _ HC2.out).mono ?_
    rintro e w3 ⟨rfl, hg⟩
    have HG3 := Lib.hid (grownN_trans HG2.out hg)
    obtain ⟨c0, c1, c2, c3⟩ := four (B0.out.grown HG3.out)
    clear hg
    go_wp2_with fail
    have hkeep : ∀ w', W.grownBy w' none → (w'.cell? ⟨w.heap.size, 0, none⟩ = some (.int .i64 n) ∧ w'.cell? ⟨w.heap.size, 1, none⟩ = some (.int .i64 f) ∧ w'.cell? ⟨w.heap.size, 2, none⟩ = some cv ∧ w'.cell? ⟨w.heap.size, 3, none⟩ = some pv) := fun w' g => four (B0.out.grown g)
    have hd := grownN_trans HG3.out (grown_drew (World.grownBy.refl w3 none))
    refine wp_region_held_drew (S := fun w' => w'.cell? ⟨w.heap.size, 0, none⟩ = some (.int .i64 n) ∧ w'.cell? ⟨w.heap.size, 1, none⟩ = some (.int .i64 f) ∧ w'.cell? ⟨w.heap.size, 2, none⟩ = some cv ∧ w'.cell? ⟨w.heap.size, 3, none⟩ = some pv) (by kernel_rfl) (hkeep _ hd) (fun hHeld => ?_)
    have HWX0 := Lib.hid hd
    clear hd
    generalize w3.drew = X0 at *
    refine wpAnyH_take (i := 0) (v := ?_) rfl (by kernel_rfl) (by kernel_rfl) (by kernel_rfl) (fun _ _ _ h => h) (Or.inl ⟨by rfl, ?_⟩) (by assumption) ?_; rotate_left; (focus (intro wS hSw; (try dsimp only at hSw); go_simp <;> with_reducible rfl)); (try simp only [Act.put, List.getElem_toArray, List.getElem_cons_succ, List.getElem_cons_zero, List.setIfInBounds_toArray, List.set_cons_zero, List.set_cons_succ])
    refine wpAnyH_take (i := 1) (v := ?_) rfl (by kernel_rfl) (by kernel_rfl) (by kernel_rfl) (fun _ _ _ h => h) (Or.inl ⟨by rfl, ?_⟩) (by assumption) ?_; rotate_left; (focus (intro wS hSw; (try dsimp only at hSw); go_simp <;> with_reducible rfl)); (try simp only [Act.put, List.getElem_toArray, List.getElem_cons_succ, List.getElem_cons_zero, List.setIfInBounds_toArray, List.set_cons_zero, List.set_cons_succ])
    refine wpAnyH_take (i := 2) (v := ?_) rfl (by kernel_rfl) (by kernel_rfl) (by kernel_rfl) (fun _ _ _ h => h) (Or.inl ⟨by rfl, ?_⟩) (by assumption) ?_; rotate_left; (focus (intro wS hSw; (try dsimp only at hSw); go_simp <;> with_reducible rfl)); (try simp only [Act.put, List.getElem_toArray, List.getElem_cons_succ, List.getElem_cons_zero, List.setIfInBounds_toArray, List.set_cons_zero, List.set_cons_succ])
    refine wpAnyH_take (i := 3) (v := ?_) rfl (by kernel_rfl) (by kernel_rfl) (by kernel_rfl) (fun _ _ _ h => h) (Or.inl ⟨by rfl, ?_⟩) (by assumption) ?_; rotate_left; (focus (intro wS hSw; (try dsimp only at hSw); go_simp <;> with_reducible rfl)); (try simp only [Act.put, List.getElem_toArray, List.getElem_cons_succ, List.getElem_cons_zero, List.setIfInBounds_toArray, List.set_cons_zero, List.set_cons_succ])
    refine wpAnyH_take (i := 4) (v := ?_) rfl (by kernel_rfl) (by kernel_rfl) (by kernel_rfl) (fun _ _ _ h => h) (Or.inl ⟨by rfl, ?_⟩) (by assumption) ?_; rotate_left; (focus (intro wS hSw; (try dsimp only at hSw); go_simp <;> with_reducible rfl)); (try simp only [Act.put, List.getElem_toArray, List.getElem_cons_succ, List.getElem_cons_zero, List.setIfInBounds_toArray, List.set_cons_zero, List.set_cons_succ])
    refine wpAnyH_ready (rs := [5]) (by kernel_rfl) (by simp) ?_
    refine AllReadyH.cons rfl (fun K hK => ?_) AllReadyH.nil
    go_simp
    go_at_call 115
    (try rw [hw])
    refine (with_any X0 (f - q)).mono ?_
    rintro e w5 ⟨rfl, rfl⟩
    have g5 := World.grownBy_alloc X0 (.cells #[.int .i64 (f - q)] 3 (0, 0)) (none : Option Nat)
    have hb5 := box_new X0 #[.int .i64 (f - q)] 3
    generalize X0.alloc (.cells #[.int .i64 (f - q)] 3 (0, 0)) = X1 at *
    generalize X0.heap.size = cb at *
    have HWX1 := Lib.hid (grownN_trans HWX0.out g5)
    have HB5 := Lib.hid hb5
    refine hK.out _ _ ?_ (fun hHeld => ?_)
    · exact hkeep _ HWX1.out
    clear hK K g5 hb5
    (try simp only [Act.put, List.getElem_toArray, List.getElem_cons_succ, List.getElem_cons_zero, List.setIfInBounds_toArray, List.set_cons_zero, List.set_cons_succ])
    refine wpAnyH_ready (rs := [6]) (by kernel_rfl) (by simp) ?_
    refine AllReadyH.cons rfl (fun K hK => ?_) AllReadyH.nil
    go_simp
    have g6 := World.grownBy_alloc X1 (.cells #[.func (.func 165) #[] #[.pointer (some ⟨cb, 0, none⟩)]] 125 (0, 0)) (none : Option Nat)
    have hb6 := box_new X1 #[.func (.func 165) #[] #[.pointer (some ⟨cb, 0, none⟩)]] 125
    generalize X1.alloc (.cells #[.func (.func 165) #[] #[.pointer (some ⟨cb, 0, none⟩)]] 125 (0, 0)) = X2 at *
    generalize X1.heap.size = gb at *
    have HWX2 := Lib.hid (grownN_trans HWX1.out g6)
    have HB6 := Lib.hid hb6
    have HB52 := Lib.hid (HB5.out.grown g6)
    refine hK.out _ _ ?_ (fun hHeld => ?_)
    · exact hkeep _ HWX2.out
    clear hK K g6 hb6
    (try simp only [Act.put, List.getElem_toArray, List.getElem_cons_succ, List.getElem_cons_zero, List.setIfInBounds_toArray, List.set_cons_zero, List.set_cons_succ])
    refine wpAnyH_ready (rs := [7]) (by kernel_rfl) (by simp) ?_
    refine AllReadyH.cons rfl (fun K hK => ?_) AllReadyH.nil
    go_simp
    go_at_call 102
    refine (from_any X2 n f (f - q) cv pv (.slice (some ⟨gb, 0, none⟩) 1 1) 1 L P (HC.out.grown HWX2.out) (HP.out.grown HWX2.out) HLL.out HPP.out (.inr ⟨gb, cb, 1, rfl, rfl, HB52.out, HB6.out⟩)).mono ?_
    rintro e w4 ⟨u, t, rfl, ho, hto, hap, hg⟩
    obtain ⟨ua, un, uc, hu, HUN⟩ := ho.sees.shape
    obtain ⟨ta, tn, tc, ht, HTN⟩ := hto.sees.shape
    subst hu
    subst ht
    have HG4 := Lib.hid (grownN_trans HWX2.out hg)
    have HO4 := Lib.hid ho
    have HTO4 := Lib.hid hto
    have HAP := Lib.hid hap
    have B14 := Lib.hid (B1.out.grown HG4.out)
    have hWs := B1.out.lt
    have hW3 := HWX2.out.size
    obtain ⟨⟨p0, r0⟩, ⟨p1, r1⟩, ⟨p2, r2⟩, ⟨p3, r3⟩⟩ := put4_on B14.out (.int .i64 n) (.int .i64 (f - q)) (.slice ua un uc) (.slice ta tn tc)
    clear ho hto hap hg
    refine hK.out _ _ ?_ (fun hHeld => ?_)
    · exact hkeep _ HG4.out
    clear hK K
    (try simp only [Act.put, List.getElem_toArray, List.getElem_cons_succ, List.getElem_cons_zero, List.setIfInBounds_toArray, List.set_cons_zero, List.set_cons_succ])
    refine wpAnyH_ready (rs := [8]) (by kernel_rfl) (by simp) ?_
    refine AllReadyH.cons rfl (fun K hK => ?_) AllReadyH.nil
    go_simp
    have hP4 := put4_grown w4 (w.heap.size + 1) (.int .i64 n) (.int .i64 (f - q)) (.slice ua un uc) (.slice ta tn tc)
    refine hK.out _ _ ?_ (fun hHeld => ?_)
    · exact four ((B0.out.grown HG4.out).kept hP4 (by intro e; injection e with e; omega))
    clear hK K hP4
    (try simp only [Act.put, List.getElem_toArray, List.getElem_cons_succ, List.getElem_cons_zero, List.setIfInBounds_toArray, List.set_cons_zero, List.set_cons_succ])
    refine wpAnyH_take (i := 9) (v := ?_) rfl (by kernel_rfl) (by kernel_rfl) (by kernel_rfl) (fun _ _ _ h => h) (Or.inl ⟨by rfl, ?_⟩) (by assumption) ?_; rotate_left; (focus (intro wS hSw; (try dsimp only at hSw); go_simp <;> with_reducible rfl)); (try simp only [Act.put, List.getElem_toArray, List.getElem_cons_succ, List.getElem_cons_zero, List.setIfInBounds_toArray, List.set_cons_zero, List.set_cons_succ])
    refine wpAnyH_done (by kernel_rfl) ?_ _
    (try simp only [Act.put, List.getElem_toArray, List.getElem_cons_succ, List.getElem_cons_zero, List.setIfInBounds_toArray, List.set_cons_zero, List.set_cons_succ])
    go_wp2
    try simp only [Exit.inBlock, Exit.then]
    have hP4 := put4_grown w4 (w.heap.size + 1) (.int .i64 n) (.int .i64 (f - q)) (.slice ua un uc) (.slice ta tn tc)
    refine ret_box1 rfl rfl (put4_box (x' := .int .i64 n) (y' := .int .i64 (f - q)) (z' := (.slice ua un uc)) (u' := (.slice ta tn tc)) B14.out) Tryz.underlying42 rfl (by kernel_rfl) rfl ?_
    rw [HR.out, HE.out]
    exact ⟨(.slice ua un uc), (.slice ta tn tc), rfl, (HO4.out.kept hP4 (.inr (HO4.out.off (by omega)))).lower (by omega), (HTO4.out.kept hP4 (.inr (HTO4.out.off (by omega)))).lower (by omega), HAP.out, grown_new (grownN_trans HG.out HG4.out) hP4 (fun c h => by injection h with h; omega)⟩
end Go.Proofs.YtonalkamfgpokaaGreat.Pf

namespace Go.Proofs.YtonalkamfgpokaaGreat.Ph
open Go.RowKit Kit Rw Rg Crw Four PartyL Pc Pa Pd Pe Mn

def pickK (L : List Mem) (f m : Int) : Int := most 0 (least m (roomOf L f))
def pickF (L : List Mem) (f m : Int) : Int := f + pickK L f m
theorem pick_fits (L : List Mem) {f : Int} (hf : -9223372036854775808 ≤ f ∧ f ≤ 9223372036854775807) (m : Int) : -9223372036854775808 ≤ f + pickK L f m ∧ f + pickK L f m ≤ 9223372036854775807 := by
  have hc := capOf_bound L
  have hr : 0 ≤ roomOf L f ∧ (roomOf L f = 0 ∨ f + roomOf L f = capOf L) := by
    unfold roomOf
    by_cases h : f < 0 ∨ capOf L ≤ f
    · rw [if_pos h]; omega
    · rw [if_neg h]; omega
  have hk : 0 ≤ pickK L f m ∧ pickK L f m ≤ roomOf L f := by
    unfold pickK
    generalize roomOf L f = r at *
    have hl : least m r ≤ r := by unfold least; by_cases h : r < m <;> simp [h] <;> omega
    unfold most
    by_cases h : 0 < least m r
    · rw [if_pos h]; omega
    · rw [if_neg h]; omega
  omega
theorem sMin2 (a b : Int) (w : World) : Calls Tryz.prog 143 #[.int .i64 a, .int .i64 b] w fun e w' => e = .returned (.int .i64 (least a b)) ∧ w.grownBy w' none := by
  by_cases h : b < a
  · have HR : Hid (least a b = b) := if_pos h
    go_enter Tryz.func143, Tryz.ntmps143
    go_wp2
    go_ret
    exact ⟨ret_i64 HR.out.symm, World.grownBy.refl _ _⟩
  · have HR : Hid (least a b = a) := if_neg h
    go_enter Tryz.func143, Tryz.ntmps143
    go_wp2
    go_ret
    exact ⟨ret_i64 HR.out.symm, World.grownBy.refl _ _⟩
theorem sMax2 (a b : Int) (w : World) : Calls Tryz.prog 141 #[.int .i64 a, .int .i64 b] w fun e w' => e = .returned (.int .i64 (most a b)) ∧ w.grownBy w' none := by
  by_cases h : a < b
  · have HR : Hid (most a b = b) := if_pos h
    go_enter Tryz.func141, Tryz.ntmps141
    go_wp2
    go_ret
    exact ⟨ret_i64 HR.out.symm, World.grownBy.refl _ _⟩
  · have HR : Hid (most a b = a) := if_neg h
    go_enter Tryz.func141, Tryz.ntmps141
    go_wp2
    go_ret
    exact ⟨ret_i64 HR.out.symm, World.grownBy.refl _ _⟩

set_option maxRecDepth 20000 in
set_option maxHeartbeats 4000000 in
theorem sPick_any (w : World) (n f m : Int) (cv pv : Value) (L : List Mem) (P : List Bool) (hf : (Lit.int .i64 f).wf = true) (hc : SeesG encM w cv L) (hp : SeesG encB w pv P) (hL : L.length ≤ 1000000000) (hP : P.length ≤ 1000000000) :
    Calls Tryz.prog 95 #[.agg #[.int .i64 n, .int .i64 f, cv, pv], .int .i64 m] w fun e w' => ∃ u t, e = .returned (.tuple #[.agg #[.int .i64 n, .int .i64 (pickF L f m), u, t], .int .i64 (pickK L f m)]) ∧ PartyOut w w' u t L P := by
  have g0 := World.grownBy_alloc w (.cells #[.int .i64 n, .int .i64 f, cv, pv] 42 (0, 0)) (none : Option Nat)
  have g1 := World.grownBy_alloc (w.alloc (.cells #[.int .i64 n, .int .i64 f, cv, pv] 42 (0, 0))) (.cells #[.int .i64 0, .int .i64 0, .slice none 0 0, .slice none 0 0] 42 (0, 0)) (none : Option Nat)
  have b0 := (box_new w #[.int .i64 n, .int .i64 f, cv, pv] 42).grown g1
  have b1 := box_new (w.alloc (.cells #[.int .i64 n, .int .i64 f, cv, pv] 42 (0, 0))) #[.int .i64 0, .int .i64 0, .slice none 0 0, .slice none 0 0] 42
  simp only [World.size_alloc] at b1
  have HG := Lib.hid (grownN_trans g0 g1)
  have HC := Lib.hid (hc.grown HG.out)
  have HP := Lib.hid (hp.grown HG.out)
  have B0 := Lib.hid b0
  have B1 := Lib.hid b1
  obtain ⟨c0, c1, c2, c3⟩ := four b0
  have HLL := Lib.hid hL
  have HPP := Lib.hid hP
  have HF := Lib.hid hf
  have hfb := i64_of hf
  clear hc hp g0 g1 b0 b1 hL hP hf
  obtain ⟨k, hk⟩ : ∃ k, k = pickK L f m := ⟨_, rfl⟩
  have hfit := pick_fits L hfb m
  rw [← hk] at hfit
  have HK : Hid (most 0 (least m (roomOf L f)) = k) := hk.symm
  have HKK : Hid (pickK L f m = k) := hk.symm
  have HFP : Hid (pickF L f m = f + k) := Lib.hid (by rw [hk]; rfl)
  have hw : IntKind.i64.wrap (f + k) = f + k := IntWalk.i64_in _ hfit
  clear hk hfit
  go_enter Tryz.func95, Tryz.ntmps95
  go_wp2_with fail
  generalize (w.alloc (.cells #[.int .i64 n, .int .i64 f, cv, pv] 42 (0, 0))).alloc (.cells #[.int .i64 0, .int .i64 0, .slice none 0 0, .slice none 0 0] 42 (0, 0)) = W at *
  refine (copy_any W n f cv pv L P HC.out HP.out HLL.out HPP.out).mono ?_
  rintro e w2 ⟨u, t, rfl, ho, hto, hap, hg⟩
  obtain ⟨ua, un, uc, hu, HUN⟩ := ho.sees.shape
  obtain ⟨ta, tn, tc, ht, HTN⟩ := hto.sees.shape
  subst hu
  subst ht
  have g3 := World.grownBy_alloc w2 (.cells #[.int .i64 n, .int .i64 f, .slice ua un uc, .slice ta tn tc] 42 (0, 0)) (none : Option Nat)
  have b4 := box_new w2 #[.int .i64 n, .int .i64 f, .slice ua un uc, .slice ta tn tc] 42
  have hWs : w.heap.size + 1 < W.heap.size := B1.out.lt
  have hW2 : W.heap.size ≤ w2.heap.size := hg.size
  have HO := Lib.hid (ho.grown g3)
  have HTO := Lib.hid (hto.grown g3)
  have HAP := Lib.hid hap
  have HOL := Lib.hid ho.lt
  have HTL := Lib.hid hto.lt
  have HG3 := Lib.hid (grownN_trans hg g3)
  have B3 := Lib.hid b4
  obtain ⟨c0, c1, c2, c3⟩ := four (B0.out.grown HG3.out)
  obtain ⟨d0, d1, d2, d3⟩ := four b4
  clear ho hto hap hg g3 b4
  go_wp2_with fail
  generalize w2.alloc (.cells #[.int .i64 n, .int .i64 f, .slice ua un uc, .slice ta tn tc] 42 (0, 0)) = w3 at *
  refine (sRoom_any w3 n f cv pv L HF.out (HC.out.grown HG3.out)).mono ?_
  rintro e w4 ⟨rfl, hg⟩
  have HG4 := Lib.hid (grownN_trans HG3.out hg)
  have HO4 := Lib.hid (HO.out.grown hg)
  have HTO4 := Lib.hid (HTO.out.grown hg)
  have B4 := Lib.hid (B3.out.grown hg)
  clear hg c0 c1 c2 c3 d0 d1 d2 d3
  go_wp2_with fail
  refine (sMin2 m (roomOf L f) w4).mono ?_
  rintro e w5 ⟨rfl, hg⟩
  have HG5 := Lib.hid (grownN_trans HG4.out hg)
  have HO5 := Lib.hid (HO4.out.grown hg)
  have HTO5 := Lib.hid (HTO4.out.grown hg)
  have B5 := Lib.hid (B4.out.grown hg)
  clear hg
  go_wp2_with fail
  refine (sMax2 0 (least m (roomOf L f)) w5).mono ?_
  rintro e w6 ⟨rfl, hg⟩
  rw [HK.out]
  have HG6 := Lib.hid (grownN_trans HG5.out hg)
  have HO6 := Lib.hid (HO5.out.grown hg)
  have HTO6 := Lib.hid (HTO5.out.grown hg)
  have B6 := Lib.hid (B5.out.grown hg)
  have B16 := Lib.hid (B1.out.grown HG6.out)
  obtain ⟨c0, c1, c2, c3⟩ := four (B0.out.grown HG6.out)
  obtain ⟨d0, d1, d2, d3⟩ := four B6.out
  have hset := grown_set w6 w2.heap.size 1 (.int .i64 (f + k))
  have B7 := Lib.hid (four_set1 (v := .int .i64 (f + k)) B6.out)
  have f6 := B6.out.free 1
  have B17 := Lib.hid (B16.out.kept hset (by intro e; injection e with e; omega))
  have HO7 := Lib.hid (HO6.out.kept hset (.inr (fun e => by have := (HOL.out _ e).2; omega)))
  have HTO7 := Lib.hid (HTO6.out.kept hset (.inr (fun e => by have := (HTL.out _ e).2; omega)))
  have HG7 := Lib.hid (grown_new (grownN_trans HG.out HG6.out) hset (fun c h => by injection h with h; omega))
  obtain ⟨e0, e1, e2, e3⟩ := four B7.out
  obtain ⟨⟨p0, r0⟩, ⟨p1, r1⟩, ⟨p2, r2⟩, ⟨p3, r3⟩⟩ := put4_on B17.out (.int .i64 n) (.int .i64 (f + k)) (.slice ua un uc) (.slice ta tn tc)
  clear hset hg
  go_wp2
  try simp only [Exit.inBlock, Exit.then]
  have hP4 := put4_grown (w6.setCell ⟨w2.heap.size, 1, none⟩ (.int .i64 (f + k))) (w.heap.size + 1) (.int .i64 n) (.int .i64 (f + k)) (.slice ua un uc) (.slice ta tn tc)
  refine ret_box1 rfl rfl (put4_box (x' := .int .i64 n) (y' := .int .i64 (f + k)) (z' := (.slice ua un uc)) (u' := (.slice ta tn tc)) B17.out) Tryz.underlying42 rfl (by kernel_rfl) rfl ?_
  rw [HFP.out, HKK.out]
  exact ⟨(.slice ua un uc), (.slice ta tn tc), rfl, (HO7.out.kept hP4 (.inr (HO7.out.off (by omega)))).lower (by omega), (HTO7.out.kept hP4 (.inr (HTO7.out.off (by omega)))).lower (by omega), HAP.out, grown_new HG7.out hP4 (fun c h => by injection h with h; omega)⟩

set_option maxRecDepth 20000 in
set_option maxHeartbeats 1000000 in
theorem takes_any (w : World) (n f m : Int) (cv pv : Value) (L : List Mem) (hf : (Lit.int .i64 f).wf = true) (hc : SeesG encM w cv L) :
    Calls Tryz.prog 153 #[.agg #[.int .i64 n, .int .i64 f, cv, pv], .int .i64 m] w fun e w' => e = .returned (.int .i64 (most 0 (least m (roomOf L f)))) ∧ w.grownBy w' none := by
  have g0 := World.grownBy_alloc w (.cells #[.int .i64 n, .int .i64 f, cv, pv] 42 (0, 0)) (none : Option Nat)
  have b0 := box_new w #[.int .i64 n, .int .i64 f, cv, pv] 42
  have HG := Lib.hid g0
  have HC := Lib.hid (hc.grown g0)
  have HF := Lib.hid hf
  obtain ⟨c0, c1, c2, c3⟩ := four b0
  clear g0 b0 hc hf
  go_enter Tryz.func153, Tryz.ntmps153
  go_wp2_with fail
  refine (iRoom_any _ n f cv pv L HF.out HC.out).mono ?_
  rintro e w2 ⟨rfl, hg⟩
  have HG2 := Lib.hid (grownN_trans HG.out hg)
  clear hg c0 c1 c2 c3
  go_wp2_with fail
  refine (min_any m (roomOf L f) w2).mono ?_
  rintro e w4 ⟨rfl, hg⟩
  have HG4 := Lib.hid (grownN_trans HG2.out hg)
  clear hg
  go_wp2_with fail
  refine (max_any 0 (least m (roomOf L f)) w4).mono ?_
  rintro e w5 ⟨rfl, hg⟩
  have HG5 := Lib.hid (grownN_trans HG4.out hg)
  clear hg
  go_wp2
  go_ret
  exact ⟨rfl, HG5.out⟩

end Go.Proofs.YtonalkamfgpokaaGreat.Ph

namespace Go.Proofs.YtonalkamfgpokaaGreat.Pg
open Go.RowKit Kit Rw Rg Crw Four PartyL Pc Pa Pd Pe Pf Mn

theorem sEatL (w : World) (n f : Int) (cv pv : Value) (L : List Mem) (P : List Bool) (hf : (Lit.int .i64 f).wf = true) (hc : SeesG encM w cv L) (hp : SeesG encB w pv P) (hL : L.length ≤ 1000000000) (hP : P.length ≤ 1000000000) :
    Calls Tryz.prog 98 #[.agg #[.int .i64 n, .int .i64 f, cv, pv]] w fun e w' => ∃ u t, e = .returned (.tuple #[.agg #[.int .i64 n, .int .i64 (eatF L f), u, t], .bool (eatB L f)]) ∧ OwnG encM 143 w' w.heap.size u L ∧ OwnG encB 4 w' w.heap.size t P ∧ Apart t u ∧ w.grownBy w' none :=
  (sEat_any w n f cv pv L P hf hc hp hL hP).mono fun _ _ ⟨u, t, h, ho, ht, ha, hg⟩ => ⟨u, t, h, ho, ht, ha.symm, hg⟩
theorem iEatL (w : World) (n f : Int) (cv pv : Value) (L : List Mem) (P : List Bool) (hf : (Lit.int .i64 f).wf = true) (hc : SeesG encM w cv L) (hp : SeesG encB w pv P) (hL : L.length ≤ 1000000000) (hP : P.length ≤ 1000000000) :
    Calls Tryz.prog 157 #[.agg #[.int .i64 n, .int .i64 f, cv, pv]] w fun e w' => ∃ u t, e = .returned (.tuple #[.agg #[.int .i64 n, .int .i64 (eatF L f), u, t], .bool (eatB L f)]) ∧ OwnG encM 143 w' w.heap.size u L ∧ OwnG encB 4 w' w.heap.size t P ∧ Apart t u ∧ w.grownBy w' none :=
  (iEat_any w n f cv pv L P hf hc hp hL hP).mono fun _ _ ⟨u, t, h, ho, ht, ha, hg⟩ => ⟨u, t, h, ho, ht, ha.symm, hg⟩
end Go.Proofs.YtonalkamfgpokaaGreat.Pg

namespace Go.Proofs.YtonalkamfgpokaaGreat.Hom
open Go.RowKit Kit Rw Rg Stm Crw Wf

/-- What a cell gives to a party that comes there. -/
def gain (L : List Mem) (D : List (Int × Int)) (c g : Int) : Int := Ph.pickF L g (Dep.foodAt D c)
/-- The food of a party behind so much of the way home. -/
def onWay (L : List Mem) (D : List (Int × Int)) (S : List Bool) (W : List Int) (g : Int) : Int := walk (needOf L) (gain L D) S W g
noncomputable def canAsk (W H : Int) (X : List Int) (base m rn : Int) (D : List (Int × Int)) (n f : Int) (L : List Mem) (P : List Bool) : Bool :=
  isRule m rn && (Dep.areDep W H X D && (Pa.isParty W H X n f L P && decide (wayOf W H X n base ≠ [])))
/-- The food left at home, or -1. -/
noncomputable def left (W H : Int) (X : List Int) (base m rn : Int) (D : List (Int × Int)) (n f : Int) (L : List Mem) (P : List Bool) : Int :=
  if canAsk W H X base m rn D n f L P = true then
    onWay L D (signs m.toNat rn.toNat P ((wayOf W H X n base).length - 1)) ((wayOf W H X n base).drop 1) (gain L D n f) else -1
theorem gain_bd (L : List Mem) (D : List (Int × Int)) (c : Int) {g : Int} (h : 0 ≤ g ∧ g ≤ 10000) : g ≤ gain L D c g ∧ gain L D c g ≤ 10000 := by
  have hc := capOf_bound L
  have hr : 0 ≤ Pa.roomOf L g ∧ (Pa.roomOf L g = 0 ∨ g + Pa.roomOf L g = capOf L) := by
    unfold Pa.roomOf
    by_cases h : g < 0 ∨ capOf L ≤ g
    · rw [if_pos h]; omega
    · rw [if_neg h]; omega
  have hk : 0 ≤ Ph.pickK L g (Dep.foodAt D c) ∧ Ph.pickK L g (Dep.foodAt D c) ≤ Pa.roomOf L g := by
    unfold Ph.pickK
    generalize Pa.roomOf L g = r at *
    generalize Dep.foodAt D c = m at *
    have hl : Mn.least m r ≤ r := by unfold Mn.least; split <;> omega
    unfold Mn.most
    split <;> omega
  unfold gain Ph.pickF
  omega
theorem isParty_of {W H : Int} {X : List Int} {n f : Int} {L : List Mem} {P : List Bool} (h : Pa.isParty W H X n f L P = true) : Ld.isOpen W H X n = true ∧ areCrew L = true ∧ (0 ≤ f ∧ f ≤ 10000) ∧ P.length ≤ 10 := by
  unfold Pa.isParty at h
  simp only [Bool.and_eq_true, decide_eq_true_eq] at h
  exact ⟨h.1, h.2.1, h.2.2.1, h.2.2.2⟩
end Go.Proofs.YtonalkamfgpokaaGreat.Hom

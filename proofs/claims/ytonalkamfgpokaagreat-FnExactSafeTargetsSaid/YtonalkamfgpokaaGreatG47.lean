/- Contracts of a day that passes for a party: the program's passDay, the model's l11Day. Contracts of the model's day, and of whether it leaves a party that can return. -/
import Derived.Test.YtonalkamfgpokaaGreatPe2
import Derived.Test.YtonalkamfgpokaaGreatG21
import Derived.Test.YtonalkamfgpokaaGreatG9
import Derived.Deep.RegionHeld3
import Derived.Test.YtonalkamfgpokaaGreatLah
namespace Go.Proofs.YtonalkamfgpokaaGreat.Day
open Go.RowKit Kit Rw Rg Four PartyL Pc Pd Pe Stm Crw

theorem crew_need {L : List Mem} (h : Crw.areCrew L = true) : 0 ≤ needOf L ∧ needOf L ≤ 1000000000000 := by
  have := Crw.needOf_bound L; omega
theorem eat_wf {L : List Mem} {f : Int} (h : (Lit.int .i64 f).wf = true) : (Lit.int .i64 (eatF L f)).wf = true := by
  cases hb : eatB L f
  · rw [eatF_no hb]; exact h
  · rw [eatF_yes hb]
    have hf := i64_of h
    unfold eatB at hb
    simp only [Bool.and_eq_true, decide_eq_true_eq] at hb
    have := crew_need hb.1
    exact i64_mk (by omega)
/-- Where the party is, and what it remembers, at the end of a day on which it sets out, if it can eat. -/
def dayN (L : List Mem) (f n a : Int) : Int := if eatB L f = true then a else n
def dayP (L : List Mem) (f : Int) (P : List Bool) (st : Bool) : List Bool := if eatB L f = true then addDay P st else P

set_option maxRecDepth 20000 in
set_option maxHeartbeats 4000000 in
theorem pass_any (w : World) (n f a : Int) (st : Bool) (cv pv : Value) (L : List Mem) (P : List Bool) (hf : (Lit.int .i64 f).wf = true) (hc : SeesG encM w cv L) (hp : SeesG encB w pv P) (hL : L.length ≤ 1000000000) (hP : P.length ≤ 100000000) :
    Calls Tryz.prog 107 #[.agg #[.int .i64 n, .int .i64 f, cv, pv], .int .i64 a, .bool st] w fun e w' => ∃ u t, e = .returned (.tuple #[.agg #[.int .i64 (dayN L f n a), .int .i64 (eatF L f), u, t], .bool (eatB L f)]) ∧ PartyOut w w' u t L (dayP L f P st) := by
  have g0 := World.grownBy_alloc w (.cells #[.int .i64 n, .int .i64 f, cv, pv] 42 (0, 0)) (none : Option Nat)
  have g1 := World.grownBy_alloc (w.alloc (.cells #[.int .i64 n, .int .i64 f, cv, pv] 42 (0, 0))) (.cells #[.int .i64 0, .int .i64 0, .slice none 0 0, .slice none 0 0] 42 (0, 0)) (none : Option Nat)
  have b0 := (box_new w #[.int .i64 n, .int .i64 f, cv, pv] 42).grown g1
  have b1 := box_new (w.alloc (.cells #[.int .i64 n, .int .i64 f, cv, pv] 42 (0, 0))) #[.int .i64 0, .int .i64 0, .slice none 0 0, .slice none 0 0] 42
  simp only [World.size_alloc] at b1
  have HG := Lib.hid (grownN_trans g0 g1)
  have HC := Lib.hid (hc.grown HG.out)
  have HP := Lib.hid (hp.grown HG.out)
  have B1 := Lib.hid b1
  have HLL := Lib.hid hL
  have HPP := Lib.hid hP
  have HF := Lib.hid hf
  obtain ⟨c0, c1, c2, c3⟩ := four b0
  clear hc hp g0 g1 b0 b1 hL hP hf
  go_enter Tryz.func107, Tryz.ntmps107
  go_wp2_with fail
  generalize (w.alloc (.cells #[.int .i64 n, .int .i64 f, cv, pv] 42 (0, 0))).alloc (.cells #[.int .i64 0, .int .i64 0, .slice none 0 0, .slice none 0 0] 42 (0, 0)) = W at *
  refine (Pg.iEatL W n f _ _ L P HF.out HC.out HP.out HLL.out (by have := HPP.out; omega)).mono ?_
  rintro e w3 ⟨u, t, rfl, hu, ht, hap, hg⟩
  have HZ := Lib.hid HG.out.size
  have HAP := Lib.hid hap
  have HU := Lib.hid (hu.lower HZ.out)
  have HT := Lib.hid (ht.lower HZ.out)
  have hu2 := hu.off B1.out.lt
  have ht2 := ht.off B1.out.lt
  have HNU := Lib.hid hu2
  have HNT := Lib.hid ht2
  have B3 := Lib.hid (B1.out.grown hg)
  have HG3 := Lib.hid (grownN_trans HG.out hg)
  obtain ⟨ua, un, uc, hu', HUN⟩ := hu.sees.shape
  subst hu'
  obtain ⟨ta, tn, tc, ht', HTN⟩ := ht.sees.shape
  subst ht'
  have gk := World.grownBy_alloc w3 (.cells #[.int .i64 n, .int .i64 (eatF L f), .slice ua un uc, .slice ta tn tc] 42 (0, 0)) (none : Option Nat)
  have bk := box_new w3 #[.int .i64 n, .int .i64 (eatF L f), .slice ua un uc, .slice ta tn tc] 42
  have GK := Lib.hid gk
  have BK := Lib.hid bk
  have BR := Lib.hid (B3.out.grown gk)
  clear hu ht hap hg c0 c1 c2 c3 hu2 ht2 gk bk
  obtain ⟨g, hgE⟩ : ∃ g, g = eatF L f := ⟨_, rfl⟩
  rw [← hgE] at BK BR GK ⊢
  have HGE := Lib.hid hgE
  clear hgE
  cases hb : eatB L f
  · have HN : Hid (dayN L f n a = n) := by show _ = _; unfold dayN; rw [hb]; rfl
    have HQ : Hid (dayP L f P st = P) := by show _ = _; unfold dayP; rw [hb]; rfl
    have HB := Lib.hid hb
    clear hb
    obtain ⟨d0, d1, d2, d3⟩ := four BK.out
    obtain ⟨⟨p0, r0⟩, ⟨p1, r1⟩, ⟨p2, r2⟩, ⟨p3, r3⟩⟩ := put4_on BR.out (.int .i64 n) (.int .i64 g) (.slice ua un uc) (.slice ta tn tc)
    go_wp2
    try simp only [Exit.inBlock, Exit.then]
    have hP4 := put4_grown (w3.alloc (.cells #[.int .i64 n, .int .i64 g, .slice ua un uc, .slice ta tn tc] 42 (0, 0))) (w.heap.size + 1) (.int .i64 n) (.int .i64 g) (.slice ua un uc) (.slice ta tn tc)
    have hlt := B1.out.lt
    refine ret_box1 rfl rfl (put4_box (x' := .int .i64 n) (y' := .int .i64 g) (z' := (.slice ua un uc)) (u' := (.slice ta tn tc)) BR.out) Tryz.underlying42 rfl (by kernel_rfl) rfl ?_
    exact ⟨(.slice ua un uc), (.slice ta tn tc), by rw [HN.out, HB.out, ← HGE.out]; rfl, (HU.out.grown GK.out).kept hP4 (.inr HNU.out), by rw [HQ.out]; exact (HT.out.grown GK.out).kept hP4 (.inr HNT.out), ApartU.symm HAP.out, grown_new (grownN_trans HG3.out GK.out) hP4 (fun c h => by injection h with h; omega)⟩
  · have HN : Hid (dayN L f n a = a) := by show _ = _; unfold dayN; rw [hb]; rfl
    have HQ : Hid (dayP L f P st = addDay P st) := by show _ = _; unfold dayP; rw [hb]; rfl
    have HB := Lib.hid hb
    clear hb
    have HUK := Lib.hid (HU.out.grown GK.out)
    have HTK := Lib.hid (HT.out.grown GK.out)
    have HGK := Lib.hid (grownN_trans HG3.out GK.out)
    go_wp2_with fail
    generalize w3.alloc (.cells #[.int .i64 n, .int .i64 g, .slice ua un uc, .slice ta tn tc] 42 (0, 0)) = W4 at *
    have HKA := Lib.hid (show w.heap.size + 1 < w3.heap.size from B3.out.lt)
    generalize w3.heap.size = K at *
    have HD := Lib.hid (grown_drew (World.grownBy.refl W4 none))
    refine wp_region_held_drew (S := fun w' => w'.cell? ⟨K, 0, none⟩ = some (.int .i64 n) ∧ w'.cell? ⟨K, 1, none⟩ = some (.int .i64 g) ∧ w'.cell? ⟨K, 2, none⟩ = some (.slice ua un uc) ∧ w'.cell? ⟨K, 3, none⟩ = some (.slice ta tn tc)) (by kernel_rfl) (four (BK.out.grown HD.out)) (fun hHeld => ?_)
    generalize World.drew W4 = X0 at *
    refine wpAnyH_take (i := 0) (v := ?_) rfl (by kernel_rfl) (by kernel_rfl) (by kernel_rfl) (fun _ _ _ h => h) (Or.inl ⟨by rfl, ?_⟩) (by assumption) ?_; rotate_left; (focus (intro wS hSw; (try dsimp only at hSw); go_simp <;> with_reducible rfl)); (try simp only [Act.put, List.getElem_toArray, List.getElem_cons_succ, List.getElem_cons_zero, List.setIfInBounds_toArray, List.set_cons_zero, List.set_cons_succ])
    refine wpAnyH_take (i := 1) (v := ?_) rfl (by kernel_rfl) (by kernel_rfl) (by kernel_rfl) (fun _ _ _ h => h) (Or.inl ⟨by rfl, ?_⟩) (by assumption) ?_; rotate_left; (focus (intro wS hSw; (try dsimp only at hSw); go_simp <;> with_reducible rfl)); (try simp only [Act.put, List.getElem_toArray, List.getElem_cons_succ, List.getElem_cons_zero, List.setIfInBounds_toArray, List.set_cons_zero, List.set_cons_succ])
    refine wpAnyH_take (i := 3) (v := ?_) rfl (by kernel_rfl) (by kernel_rfl) (by kernel_rfl) (fun _ _ _ h => h) (Or.inl ⟨by rfl, ?_⟩) (by assumption) ?_; rotate_left; (focus (intro wS hSw; (try dsimp only at hSw); go_simp <;> with_reducible rfl)); (try simp only [Act.put, List.getElem_toArray, List.getElem_cons_succ, List.getElem_cons_zero, List.setIfInBounds_toArray, List.set_cons_zero, List.set_cons_succ])
    refine wpAnyH_ready (rs := [2]) (by kernel_rfl) (by simp) ?_; refine AllReadyH.cons rfl (fun K hK => ?_) AllReadyH.nil; go_simp; (go_at_call 158; refine (Pe2.withCell_any _ a).mono ?_; rintro e x1 ⟨rfl, rfl⟩; have G1 := Lib.hid (World.grownBy_alloc X0 (.cells #[.int .i64 a] 3 (0, 0)) none); have C1 := Lib.hid (box_new X0 #[.int .i64 a] 3); generalize X0.alloc (.cells #[.int .i64 a] 3 (0, 0)) = X1 at *; generalize X0.heap.size = ca at *; have H1 := Lib.hid (grownN_trans HD.out G1.out))
    refine hK.out _ _ ?_ (fun hHeld => ?_)
    · exact four (BK.out.grown H1.out)
    clear hK K
    (try simp only [Act.put, List.getElem_toArray, List.getElem_cons_succ, List.getElem_cons_zero, List.setIfInBounds_toArray, List.set_cons_zero, List.set_cons_succ])
    refine wpAnyH_ready (rs := [4]) (by kernel_rfl) (by simp) ?_; refine AllReadyH.cons rfl (fun K hK => ?_) AllReadyH.nil; go_simp; (go_at_call 159; refine (Pe2.withDay_any _ st).mono ?_; rintro e x2 ⟨rfl, rfl⟩; have G2 := Lib.hid (World.grownBy_alloc X1 (.cells #[.bool st] 4 (0, 0)) none); have C2 := Lib.hid (box_new X1 #[.bool st] 4); generalize X1.alloc (.cells #[.bool st] 4 (0, 0)) = X2 at *; generalize X1.heap.size = da at *; have H2 := Lib.hid (grownN_trans H1.out G2.out))
    refine hK.out _ _ ?_ (fun hHeld => ?_)
    · exact four (BK.out.grown H2.out)
    clear hK K
    (try simp only [Act.put, List.getElem_toArray, List.getElem_cons_succ, List.getElem_cons_zero, List.setIfInBounds_toArray, List.set_cons_zero, List.set_cons_succ])
    have G3 := Lib.hid (World.grownBy_alloc X2 (.cells #[.func (.func 196) #[] #[.pointer (some ⟨ca, 0, none⟩)], .func (.func 197) #[] #[.pointer (some ⟨da, 0, none⟩)]] 125 (0, 0)) none)
    have C3 := Lib.hid (box_new X2 #[.func (.func 196) #[] #[.pointer (some ⟨ca, 0, none⟩)], .func (.func 197) #[] #[.pointer (some ⟨da, 0, none⟩)]] 125)
    have H3 := Lib.hid (grownN_trans H2.out G3.out)
    refine wpAnyH_ready (rs := [5]) (by kernel_rfl) (by simp) ?_; refine AllReadyH.cons rfl (fun K hK => ?_) AllReadyH.nil; go_simp
    refine hK.out _ _ (four (BK.out.grown H3.out)) (fun hHeld => ?_)
    clear hK K
    (try simp only [Act.put, List.getElem_toArray, List.getElem_cons_succ, List.getElem_cons_zero, List.setIfInBounds_toArray, List.set_cons_zero, List.set_cons_succ])
    generalize X2.alloc (.cells #[.func (.func 196) #[] #[.pointer (some ⟨ca, 0, none⟩)], .func (.func 197) #[] #[.pointer (some ⟨da, 0, none⟩)]] 125 (0, 0)) = X3 at *
    generalize X2.heap.size = og at *
    refine wpAnyH_ready (rs := [6]) (by kernel_rfl) (by simp) ?_; refine AllReadyH.cons rfl (fun K hK => ?_) AllReadyH.nil; go_simp; (go_at_call 102; refine (Pe2.from2_any _ n g a st _ _ og ca da L P (HUK.out.grown H3.out).sees (HTK.out.grown H3.out).sees HLL.out HPP.out ⟨C3.out, G3.out.cell (G2.out.cell (C1.out.cell 0) (by simp)) (by simp), G3.out.cell (C2.out.cell 0) (by simp)⟩).mono ?_; rintro e x4 ⟨u2, t2, rfl, hu, ht, hap, hg⟩; obtain ⟨va, vn, vc, hv', HVN⟩ := hu.sees.shape; subst hv'; obtain ⟨qa, qn, qc, hq', HQN⟩ := ht.sees.shape; subst hq'; have H4 := Lib.hid (grownN_trans H3.out hg); have HBR := Lib.hid (BR.out.grown H4.out); have hL4 := (BR.out.grown H3.out).lt; have HU4 := Lib.hid hu; have HT4 := Lib.hid ht; have HAP4 := Lib.hid hap; have HX3 := Lib.hid (grownN_trans HGK.out H3.out).size; have HNK := Lib.hid BK.out.lt; clear hu ht hap hg)
    refine hK.out _ _ ?_ (fun hHeld => ?_)
    · exact four (BK.out.grown H4.out)
    clear hK K
    (try simp only [Act.put, List.getElem_toArray, List.getElem_cons_succ, List.getElem_cons_zero, List.setIfInBounds_toArray, List.set_cons_zero, List.set_cons_succ])
    obtain ⟨⟨p0, r0⟩, ⟨p1, r1⟩, ⟨p2, r2⟩, ⟨p3, r3⟩⟩ := put4_on HBR.out (.int .i64 a) (.int .i64 g) (.slice va vn vc) (.slice qa qn qc)
    have hP4 := put4_grown x4 (w.heap.size + 1) (.int .i64 a) (.int .i64 g) (.slice va vn vc) (.slice qa qn qc)
    refine wpAnyH_ready (rs := [7]) (by kernel_rfl) (by simp) ?_; refine AllReadyH.cons rfl (fun K hK => ?_) AllReadyH.nil; go_simp
    refine hK.out _ _ (four ((BK.out.grown H4.out).kept hP4 (by intro e; injection e with e; have := HKA.out; omega))) (fun hHeld => ?_)
    clear hK K
    (try simp only [Act.put, List.getElem_toArray, List.getElem_cons_succ, List.getElem_cons_zero, List.setIfInBounds_toArray, List.set_cons_zero, List.set_cons_succ])
    refine wpAnyH_take (i := 8) (v := ?_) rfl (by kernel_rfl) (by kernel_rfl) (by kernel_rfl) (fun _ _ _ h => h) (Or.inl ⟨by rfl, ?_⟩) (by assumption) ?_; rotate_left; (focus (intro wS hSw; (try dsimp only at hSw); go_simp <;> with_reducible rfl)); (try simp only [Act.put, List.getElem_toArray, List.getElem_cons_succ, List.getElem_cons_zero, List.setIfInBounds_toArray, List.set_cons_zero, List.set_cons_succ])
    refine wpAnyH_done (by kernel_rfl) ?_ _
    (try simp only [Act.put, List.getElem_toArray, List.getElem_cons_succ, List.getElem_cons_zero, List.setIfInBounds_toArray, List.set_cons_zero, List.set_cons_succ])
    go_wp2
    try simp only [Exit.inBlock, Exit.then]
    have hlt := B1.out.lt
    refine ret_box1 rfl rfl (put4_box (x' := .int .i64 a) (y' := .int .i64 g) (z' := (.slice va vn vc)) (u' := (.slice qa qn qc)) HBR.out) Tryz.underlying42 rfl (by kernel_rfl) rfl ?_
    exact ⟨(.slice va vn vc), (.slice qa qn qc), by rw [HN.out, HB.out, ← HGE.out]; rfl, (HU4.out.kept hP4 (.inr (HU4.out.off (by omega)))).lower HX3.out, by rw [HQ.out]; exact (HT4.out.kept hP4 (.inr (HT4.out.off (by omega)))).lower HX3.out, HAP4.out, grown_new (grownN_trans HGK.out H4.out) hP4 (fun c h => by injection h with h; omega)⟩
end Go.Proofs.YtonalkamfgpokaaGreat.Day

namespace Go.Proofs.YtonalkamfgpokaaGreat.Day
open Go.RowKit Kit Rw Rg Four PartyL Pc Pd Pe Stm Crw Hom HomS

set_option maxRecDepth 20000 in
set_option maxHeartbeats 4000000 in
theorem sDay_any (w : World) (n f a : Int) (st : Bool) (cv pv : Value) (L : List Mem) (P : List Bool) (hf : (Lit.int .i64 f).wf = true) (hc : SeesG encM w cv L) (hp : SeesG encB w pv P) (hL : L.length ≤ 1000000000) (hP : P.length ≤ 100000000) :
    Calls Tryz.prog 90 #[.agg #[.int .i64 n, .int .i64 f, cv, pv], .int .i64 a, .bool st] w fun e w' => ∃ u t, e = .returned (.tuple #[.agg #[.int .i64 a, .int .i64 (eatF L f), u, t], .bool (eatB L f)]) ∧ SitsG encM w' w.heap.size u L ∧ SitsG encB w' w.heap.size t (addDay P st) ∧ Apart t u ∧ w.grownBy w' none := by
  obtain ⟨pa, pn, pc, rfl, HPN⟩ := hp.shape
  have g0 := World.grownBy_alloc w (.cells #[.int .i64 n, .int .i64 f, cv, .slice pa pn pc] 42 (0, 0)) (none : Option Nat)
  have g1 := World.grownBy_alloc (w.alloc (.cells #[.int .i64 n, .int .i64 f, cv, .slice pa pn pc] 42 (0, 0))) (.cells #[.int .i64 0, .int .i64 0, .slice none 0 0, .slice none 0 0] 42 (0, 0)) (none : Option Nat)
  have b0 := (box_new w #[.int .i64 n, .int .i64 f, cv, .slice pa pn pc] 42).grown g1
  have b1 := box_new (w.alloc (.cells #[.int .i64 n, .int .i64 f, cv, .slice pa pn pc] 42 (0, 0))) #[.int .i64 0, .int .i64 0, .slice none 0 0, .slice none 0 0] 42
  simp only [World.size_alloc] at b1
  have HG := Lib.hid (grownN_trans g0 g1)
  have HC := Lib.hid (hc.grown HG.out)
  have HP := Lib.hid (hp.grown HG.out)
  have B0 := Lib.hid b0
  have B1 := Lib.hid b1
  have HLL := Lib.hid hL
  have HPP := Lib.hid hP
  have HF := Lib.hid hf
  obtain ⟨c0, c1, c2, c3⟩ := four b0
  clear hc hp g0 g1 b0 b1 hL hP hf
  go_enter Tryz.func90, Tryz.ntmps90
  go_wp2_with fail
  generalize (w.alloc (.cells #[.int .i64 n, .int .i64 f, cv, .slice pa pn pc] 42 (0, 0))).alloc (.cells #[.int .i64 0, .int .i64 0, .slice none 0 0, .slice none 0 0] 42 (0, 0)) = W at *
  refine (Pg.sEatL W n f _ _ L P HF.out HC.out HP.out HLL.out (by have := HPP.out; omega)).mono ?_
  rintro e w3 ⟨u, t, rfl, hu, ht, hap, hg⟩
  have HZ := Lib.hid HG.out.size
  have HU := Lib.hid (hu.lower HZ.out)
  have HNU := Lib.hid (hu.off B1.out.lt)
  have HUL := Lib.hid hu.lt
  have B3 := Lib.hid (B1.out.grown hg)
  have A3 := Lib.hid (B0.out.grown hg)
  have HG3 := Lib.hid (grownN_trans HG.out hg)
  have HP3 := Lib.hid (HP.out.grown hg)
  obtain ⟨ua, un, uc, hu', HUN⟩ := hu.sees.shape
  subst hu'
  obtain ⟨ta, tn, tc, ht', HTN⟩ := ht.sees.shape
  subst ht'
  have gk := World.grownBy_alloc w3 (.cells #[.int .i64 n, .int .i64 (eatF L f), .slice ua un uc, .slice ta tn tc] 42 (0, 0)) (none : Option Nat)
  have bk := box_new w3 #[.int .i64 n, .int .i64 (eatF L f), .slice ua un uc, .slice ta tn tc] 42
  have GK := Lib.hid gk
  have BK := Lib.hid bk
  have BR := Lib.hid (B3.out.grown gk)
  have d3 := (A3.out.grown gk).cell 3
  have HKA := Lib.hid (show w.heap.size + 1 < w3.heap.size from B3.out.lt)
  have HGK := Lib.hid (grownN_trans HG3.out gk)
  have HPK := Lib.hid (HP3.out.grown gk)
  have HUS := Lib.hid (HU.out.sits.grown gk)
  clear hu ht hap hg c0 c1 c2 c3 gk bk HP3 HU
  go_wp2_with fail
  generalize w3.alloc (.cells #[.int .i64 n, .int .i64 (eatF L f), .slice ua un uc, .slice ta tn tc] 42 (0, 0)) = W4 at *
  generalize w3.heap.size = K at *
  clear d3
  refine (RuleL.sAddDayG _ _ P st HPK.out HPP.out).mono ?_
  rintro e w5 ⟨s, rfl, ho, hg⟩
  obtain ⟨sa, sn, sc, hs', HSN⟩ := ho.sees.shape
  subst hs'
  have hBK := BK.out.grown hg
  have hBR := BR.out.grown hg
  have hKl := BK.out.lt
  have HG5 := Lib.hid (grownN_trans HGK.out hg)
  have HO5 := Lib.hid ho
  have HU5 := Lib.hid (HUS.out.grown hg)
  have HAP := Lib.hid (show Apart (.slice sa sn sc) (.slice ua un uc) from apart_lt ho.lt HUS.out.lt (Nat.le_refl _))
  have hKA := HKA.out
  have hUK : (Value.slice ua un uc).ownBlock ≠ some K := fun e => by have := HUL.out _ e; omega
  have e3 : w5.cell? ⟨K, 3, none⟩ = some (.slice ta tn tc) := hBK.cell 3
  have y3 := hBK.free 3
  have b1 := four_set3 (v := .slice sa sn sc) hBK
  have e0 : (w5.setCell ⟨K, 3, none⟩ (.slice sa sn sc)).cell? ⟨K, 0, none⟩ = some (.int .i64 n) := b1.cell 0
  have y0 := b1.free 0
  have b2 := four_set0 (v := .int .i64 a) b1
  obtain ⟨k0, k1, k2, k3⟩ := four b2
  have r2 := (hBR.kept (grown_set w5 K 3 (.slice sa sn sc)) (by intro e; injection e with e; omega)).kept (grown_set _ K 0 (.int .i64 a)) (by intro e; injection e with e; omega)
  obtain ⟨⟨p0, q0⟩, ⟨p1, q1⟩, ⟨p2, q2⟩, ⟨p3, q3⟩⟩ := put4_on r2 (.int .i64 a) (.int .i64 (eatF L f)) (.slice ua un uc) (.slice sa sn sc)
  have HR2 := Lib.hid r2
  have HUK := Lib.hid hUK
  have HKL := Lib.hid hKl
  clear ho hg hBK hBR b1 b2 r2 hUK hKl
  go_wp2
  try simp only [Exit.inBlock, Exit.then]
  have hkl := HKL.out
  have s3 := grown_set w5 K 3 (.slice sa sn sc)
  have s0 := grown_set (w5.setCell ⟨K, 3, none⟩ (.slice sa sn sc)) K 0 (.int .i64 a)
  have s4 := put4_grown ((w5.setCell ⟨K, 3, none⟩ (.slice sa sn sc)).setCell ⟨K, 0, none⟩ (.int .i64 a)) (w.heap.size + 1) (.int .i64 a) (.int .i64 (eatF L f)) (.slice ua un uc) (.slice sa sn sc)
  refine ret_box1 rfl rfl (put4_box (x' := .int .i64 a) (y' := .int .i64 (eatF L f)) (z' := (.slice ua un uc)) (u' := (.slice sa sn sc)) HR2.out) Tryz.underlying42 rfl (by kernel_rfl) rfl ?_
  refine ⟨(.slice ua un uc), (.slice sa sn sc), rfl, ?_, ?_, HAP.out, ?_⟩
  · exact ((HU5.out.kept s3 (.inr HUK.out)).kept s0 (.inr HUK.out)).kept s4 (.inr HNU.out)
  · exact (((HO5.out.kept s3 (.inr (HO5.out.off (by omega)))).kept s0 (.inr (HO5.out.off (by omega)))).kept s4 (.inr (HO5.out.off (by omega)))).lower HGK.out.size
  · exact grown_new (grown_new (grown_new HG5.out s3 (fun c h => by injection h with h; omega)) s0 (fun c h => by injection h with h; omega)) s4 (fun c h => by injection h with h; omega)

/-- Whether a day leaves a party that can return. -/
noncomputable def safe (W H : Int) (X : List Int) (base m rn : Int) (D : List (Int × Int)) (f : Int) (L : List Mem) (P : List Bool) (gx : Int) (st : Bool) : Bool :=
  eatB L f && decide (0 ≤ left W H X base m rn D gx (eatF L f) L (addDay P st))

set_option maxRecDepth 20000 in
set_option maxHeartbeats 2000000 in
theorem sSafe_any (w : World) (W H base m rn n f gx : Int) (st : Bool) (xv dv cv pv : Value) (X : List Int) (D : List (Int × Int)) (L : List Mem) (P : List Bool) (hm : (Lit.int .i64 m).wf = true) (hrn : (Lit.int .i64 rn).wf = true) (hf : (Lit.int .i64 f).wf = true)
    (hx : Sees .i64 w xv X) (hd : SeesG encP w dv D) (hc : SeesG encM w cv L) (hp : SeesG encB w pv P) (hL : L.length ≤ 1000000000) (hP : P.length ≤ 100000000) :
    Calls Tryz.prog 126 #[.agg #[.int .i64 W, .int .i64 H, xv], .int .i64 base, .agg #[.int .i64 m, .int .i64 rn], dv, .agg #[.int .i64 n, .int .i64 f, cv, pv], .int .i64 gx, .bool st] w fun e w' => e = .returned (.bool (safe W H X base m rn D f L P gx st)) ∧ w.grownBy w' none := by
  obtain ⟨xa, xn, xc, rfl, HXN⟩ := hx.shape
  obtain ⟨da, dn, dc, rfl, HDN⟩ := hd.shape
  obtain ⟨ca, cn, cc, rfl, HCN⟩ := hc.shape
  obtain ⟨pa, pn, pc, rfl, HPN⟩ := hp.shape
  have HB0 := Lib.hid (H0.start (w := w) (W := W) (H := H) (m := m) (rn := rn) (n := n) (f := f) (xv := .slice xa xn xc) (cv := .slice ca cn cc) (pv := .slice pa pn pc))
  have HX := Lib.hid (hx.grown HB0.out.grown)
  have HD := Lib.hid (hd.grown HB0.out.grown)
  have HC := Lib.hid (hc.grown HB0.out.grown)
  have HP := Lib.hid (hp.grown HB0.out.grown)
  have HM := Lib.hid (And.intro hm (And.intro hrn hf))
  have HLP := Lib.hid (And.intro hL hP)
  clear hx hd hc hp hm hrn hf hL hP
  obtain ⟨⟨a0, a1, a2⟩, ⟨b0, b1⟩, c0, c1, c2, c3⟩ := HB0.out.cells
  go_enter Tryz.func126, Tryz.ntmps126
  go_wp2_with fail
  generalize ((w.alloc (.cells #[.int .i64 W, .int .i64 H, .slice xa xn xc] 37 (0, 0))).alloc (.cells #[.int .i64 m, .int .i64 rn] 38 (0, 0))).alloc (.cells #[.int .i64 n, .int .i64 f, .slice ca cn cc, .slice pa pn pc] 42 (0, 0)) = W0 at *
  generalize w.heap.size = A at *
  refine (sDay_any _ n f gx st _ _ L P HM.out.2.2 HC.out HP.out HLP.out.1 HLP.out.2).mono ?_
  rintro e w2 ⟨u, t, rfl, hu, ht, _, hg⟩
  obtain ⟨ua, un, uc, hu', HUN⟩ := hu.sees.shape
  subst hu'
  obtain ⟨ta, tn, tc, ht', HTN⟩ := ht.sees.shape
  subst ht'
  have gk := World.grownBy_alloc w2 (.cells #[.int .i64 gx, .int .i64 (eatF L f), .slice ua un uc, .slice ta tn tc] 42 (0, 0)) (none : Option Nat)
  have bk := box_new w2 #[.int .i64 gx, .int .i64 (eatF L f), .slice ua un uc, .slice ta tn tc] 42
  have HB2 := Lib.hid ((HB0.out.on hg).on gk)
  have HG2 := Lib.hid (grownN_trans hg gk)
  have HU := Lib.hid (hu.sees.grown gk)
  have HT := Lib.hid (ht.sees.grown gk)
  clear hu ht hg a0 a1 a2 b0 b1 c0 c1 c2 c3
  cases hb : eatB L f
  · have HS : Hid (safe W H X base m rn D f L P gx st = false) := by show _ = _; unfold safe; rw [hb]; rfl
    clear hb
    go_wp2
    go_ret
    exact ⟨by rw [HS.out]; rfl, HB2.out.grown⟩
  · have HS : Hid (safe W H X base m rn D f L P gx st = decide (0 ≤ left W H X base m rn D gx (eatF L f) L (addDay P st))) := by show _ = _; unfold safe; rw [hb]; rfl
    have hcan := fun w' hx hd hc hp => Lah.sCan_any w' W H base m rn gx (eatF L f) (.slice xa xn xc) (.slice da dn dc) (.slice ua un uc) (.slice ta tn tc) X D L (addDay P st) HM.out.1 HM.out.2.1 (eat_wf HM.out.2.2) hx hd hc hp
    obtain ⟨q, hq⟩ : ∃ q, q = decide (0 ≤ left W H X base m rn D gx (eatF L f) L (addDay P st)) := ⟨_, rfl⟩
    rw [← hq] at hcan HS
    have HCAN := Lib.hid hcan
    clear hb hcan hq
    obtain ⟨⟨a0, a1, a2⟩, ⟨b0, b1⟩, c0, c1, c2, c3⟩ := HB2.out.cells
    obtain ⟨k0, k1, k2, k3⟩ := four bk
    clear bk
    go_wp2_with fail
    refine (HCAN.out _ (HX.out.grown HG2.out) (HD.out.grown HG2.out) HU.out HT.out).mono ?_
    rintro e w5 ⟨rfl, hg⟩
    have HG5 := Lib.hid (grownN_trans HB2.out.grown hg)
    clear hg
    go_wp2
    go_ret
    exact ⟨by rw [HS.out]; rfl, HG5.out⟩
end Go.Proofs.YtonalkamfgpokaaGreat.Day

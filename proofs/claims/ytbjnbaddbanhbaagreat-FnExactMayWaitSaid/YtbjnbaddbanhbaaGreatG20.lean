/- Contracts of a day that passes for a party: the program's passDay, the model's l11Day. Plain facts on the worst return: its weather, and the food on the way. No program. -/
import Derived.Test.YtbjnbaddbanhbaaGreatPe2
import Derived.Test.YtbjnbaddbanhbaaGreatG19
import Derived.Test.YtbjnbaddbanhbaaGreatG9
import Derived.Deep.RegionHeld3
import Derived.Test.YtbjnbaddbanhbaaGreatG6
namespace Go.Proofs.YtbjnbaddbanhbaaGreat.Day
open Go.RowKit Kit Rw Rg Four PartyL Pc Pd Pe Stm Crw

theorem crew_need {L : List Mem} (h : Crw.areCrew L = true) : 0 ≤ needOf L ∧ needOf L ≤ 1000000000000 := by
  have := Crw.needOf_bound L; omega
theorem eat_wf {L : List Mem} {f : Int} (h : (Lit.int .i64 f).wf = true) : (Lit.int .i64 (eatF L f)).wf = true := by
  cases hb : eatB L f
  · rw [eatF_no hb]; exact h
  · rw [eatF_yes hb]
    have hf := i64_of h
    unfold eatB at hb
    simp only [Bool.and_eq_true, decide_eq_true_eq] at hb
    have := crew_need hb.1
    exact i64_mk (by omega)
/-- Where the party is, and what it remembers, at the end of a day on which it sets out, if it can eat. -/
def dayN (L : List Mem) (f n a : Int) : Int := if eatB L f = true then a else n
def dayP (L : List Mem) (f : Int) (P : List Bool) (st : Bool) : List Bool := if eatB L f = true then addDay P st else P

set_option maxRecDepth 20000 in
set_option maxHeartbeats 4000000 in
theorem pass_any (w : World) (n f a : Int) (st : Bool) (cv pv : Value) (L : List Mem) (P : List Bool) (hf : (Lit.int .i64 f).wf = true) (hc : SeesG encM w cv L) (hp : SeesG encB w pv P) (hL : L.length ≤ 1000000000) (hP : P.length ≤ 100000000) :
    Calls Tryz.prog 88 #[.agg #[.int .i64 n, .int .i64 f, cv, pv], .int .i64 a, .bool st] w fun e w' => ∃ u t, e = .returned (.tuple #[.agg #[.int .i64 (dayN L f n a), .int .i64 (eatF L f), u, t], .bool (eatB L f)]) ∧ PartyOut w w' u t L (dayP L f P st) := by
  have g0 := World.grownBy_alloc w (.cells #[.int .i64 n, .int .i64 f, cv, pv] 44 (0, 0)) (none : Option Nat)
  have g1 := World.grownBy_alloc (w.alloc (.cells #[.int .i64 n, .int .i64 f, cv, pv] 44 (0, 0))) (.cells #[.int .i64 0, .int .i64 0, .slice none 0 0, .slice none 0 0] 44 (0, 0)) (none : Option Nat)
  have b0 := (box_new w #[.int .i64 n, .int .i64 f, cv, pv] 44).grown g1
  have b1 := box_new (w.alloc (.cells #[.int .i64 n, .int .i64 f, cv, pv] 44 (0, 0))) #[.int .i64 0, .int .i64 0, .slice none 0 0, .slice none 0 0] 44
  simp only [World.size_alloc] at b1
  have HG := Lib.hid (grownN_trans g0 g1)
  have HC := Lib.hid (hc.grown HG.out)
  have HP := Lib.hid (hp.grown HG.out)
  have B1 := Lib.hid b1
  have HLL := Lib.hid hL
  have HPP := Lib.hid hP
  have HF := Lib.hid hf
  obtain ⟨c0, c1, c2, c3⟩ := four b0
  clear hc hp g0 g1 b0 b1 hL hP hf
  go_enter Tryz.func88, Tryz.ntmps88
  go_wp2_with fail
  generalize (w.alloc (.cells #[.int .i64 n, .int .i64 f, cv, pv] 44 (0, 0))).alloc (.cells #[.int .i64 0, .int .i64 0, .slice none 0 0, .slice none 0 0] 44 (0, 0)) = W at *
  refine (Pg.iEatL W n f _ _ L P HF.out HC.out HP.out HLL.out (by have := HPP.out; omega)).mono ?_
  rintro e w3 ⟨u, t, rfl, hu, ht, hap, hg⟩
  have HZ := Lib.hid HG.out.size
  have HAP := Lib.hid hap
  have HU := Lib.hid (hu.lower HZ.out)
  have HT := Lib.hid (ht.lower HZ.out)
  have hu2 := hu.off B1.out.lt
  have ht2 := ht.off B1.out.lt
  have HNU := Lib.hid hu2
  have HNT := Lib.hid ht2
  have B3 := Lib.hid (B1.out.grown hg)
  have HG3 := Lib.hid (grownN_trans HG.out hg)
  obtain ⟨ua, un, uc, hu', HUN⟩ := hu.sees.shape
  subst hu'
  obtain ⟨ta, tn, tc, ht', HTN⟩ := ht.sees.shape
  subst ht'
  have gk := World.grownBy_alloc w3 (.cells #[.int .i64 n, .int .i64 (eatF L f), .slice ua un uc, .slice ta tn tc] 44 (0, 0)) (none : Option Nat)
  have bk := box_new w3 #[.int .i64 n, .int .i64 (eatF L f), .slice ua un uc, .slice ta tn tc] 44
  have GK := Lib.hid gk
  have BK := Lib.hid bk
  have BR := Lib.hid (B3.out.grown gk)
  clear hu ht hap hg c0 c1 c2 c3 hu2 ht2 gk bk
  obtain ⟨g, hgE⟩ : ∃ g, g = eatF L f := ⟨_, rfl⟩
  rw [← hgE] at BK BR GK ⊢
  have HGE := Lib.hid hgE
  clear hgE
  cases hb : eatB L f
  · have HN : Hid (dayN L f n a = n) := by show _ = _; unfold dayN; rw [hb]; rfl
    have HQ : Hid (dayP L f P st = P) := by show _ = _; unfold dayP; rw [hb]; rfl
    have HB := Lib.hid hb
    clear hb
    obtain ⟨d0, d1, d2, d3⟩ := four BK.out
    obtain ⟨⟨p0, r0⟩, ⟨p1, r1⟩, ⟨p2, r2⟩, ⟨p3, r3⟩⟩ := put4_on BR.out (.int .i64 n) (.int .i64 g) (.slice ua un uc) (.slice ta tn tc)
    go_wp2
    try simp only [Exit.inBlock, Exit.then]
    have hP4 := put4_grown (w3.alloc (.cells #[.int .i64 n, .int .i64 g, .slice ua un uc, .slice ta tn tc] 44 (0, 0))) (w.heap.size + 1) (.int .i64 n) (.int .i64 g) (.slice ua un uc) (.slice ta tn tc)
    have hlt := B1.out.lt
    refine ret_box1 rfl rfl (put4_box (x' := .int .i64 n) (y' := .int .i64 g) (z' := (.slice ua un uc)) (u' := (.slice ta tn tc)) BR.out) Tryz.underlying44 rfl (by kernel_rfl) rfl ?_
    exact ⟨(.slice ua un uc), (.slice ta tn tc), by rw [HN.out, HB.out, ← HGE.out]; rfl, (HU.out.grown GK.out).kept hP4 (.inr HNU.out), by rw [HQ.out]; exact (HT.out.grown GK.out).kept hP4 (.inr HNT.out), ApartU.symm HAP.out, grown_new (grownN_trans HG3.out GK.out) hP4 (fun c h => by injection h with h; omega)⟩
  · have HN : Hid (dayN L f n a = a) := by show _ = _; unfold dayN; rw [hb]; rfl
    have HQ : Hid (dayP L f P st = addDay P st) := by show _ = _; unfold dayP; rw [hb]; rfl
    have HB := Lib.hid hb
    clear hb
    have HUK := Lib.hid (HU.out.grown GK.out)
    have HTK := Lib.hid (HT.out.grown GK.out)
    have HGK := Lib.hid (grownN_trans HG3.out GK.out)
    go_wp2_with fail
    generalize w3.alloc (.cells #[.int .i64 n, .int .i64 g, .slice ua un uc, .slice ta tn tc] 44 (0, 0)) = W4 at *
    have HKA := Lib.hid (show w.heap.size + 1 < w3.heap.size from B3.out.lt)
    generalize w3.heap.size = K at *
    have HD := Lib.hid (grown_drew (World.grownBy.refl W4 none))
    refine wp_region_held_drew (S := fun w' => w'.cell? ⟨K, 0, none⟩ = some (.int .i64 n) ∧ w'.cell? ⟨K, 1, none⟩ = some (.int .i64 g) ∧ w'.cell? ⟨K, 2, none⟩ = some (.slice ua un uc) ∧ w'.cell? ⟨K, 3, none⟩ = some (.slice ta tn tc)) (by kernel_rfl) (four (BK.out.grown HD.out)) (fun hHeld => ?_)
    generalize World.drew W4 = X0 at *
    refine wpAnyH_take (i := 0) (v := ?_) rfl (by kernel_rfl) (by kernel_rfl) (by kernel_rfl) (fun _ _ _ h => h) (Or.inl ⟨by rfl, ?_⟩) (by assumption) ?_; rotate_left; (focus (intro wS hSw; (try dsimp only at hSw); go_simp <;> with_reducible rfl)); (try simp only [Act.put, List.getElem_toArray, List.getElem_cons_succ, List.getElem_cons_zero, List.setIfInBounds_toArray, List.set_cons_zero, List.set_cons_succ])
    refine wpAnyH_take (i := 1) (v := ?_) rfl (by kernel_rfl) (by kernel_rfl) (by kernel_rfl) (fun _ _ _ h => h) (Or.inl ⟨by rfl, ?_⟩) (by assumption) ?_; rotate_left; (focus (intro wS hSw; (try dsimp only at hSw); go_simp <;> with_reducible rfl)); (try simp only [Act.put, List.getElem_toArray, List.getElem_cons_succ, List.getElem_cons_zero, List.setIfInBounds_toArray, List.set_cons_zero, List.set_cons_succ])
    refine wpAnyH_take (i := 3) (v := ?_) rfl (by kernel_rfl) (by kernel_rfl) (by kernel_rfl) (fun _ _ _ h => h) (Or.inl ⟨by rfl, ?_⟩) (by assumption) ?_; rotate_left; (focus (intro wS hSw; (try dsimp only at hSw); go_simp <;> with_reducible rfl)); (try simp only [Act.put, List.getElem_toArray, List.getElem_cons_succ, List.getElem_cons_zero, List.setIfInBounds_toArray, List.set_cons_zero, List.set_cons_succ])
    refine wpAnyH_ready (rs := [2]) (by kernel_rfl) (by simp) ?_; refine AllReadyH.cons rfl (fun K hK => ?_) AllReadyH.nil; go_simp; (go_at_call 135; refine (Pe2.withCell_any _ a).mono ?_; rintro e x1 ⟨rfl, rfl⟩; have G1 := Lib.hid (World.grownBy_alloc X0 (.cells #[.int .i64 a] 3 (0, 0)) none); have C1 := Lib.hid (box_new X0 #[.int .i64 a] 3); generalize X0.alloc (.cells #[.int .i64 a] 3 (0, 0)) = X1 at *; generalize X0.heap.size = ca at *; have H1 := Lib.hid (grownN_trans HD.out G1.out))
    refine hK.out _ _ ?_ (fun hHeld => ?_)
    · exact four (BK.out.grown H1.out)
    clear hK K
    (try simp only [Act.put, List.getElem_toArray, List.getElem_cons_succ, List.getElem_cons_zero, List.setIfInBounds_toArray, List.set_cons_zero, List.set_cons_succ])
    refine wpAnyH_ready (rs := [4]) (by kernel_rfl) (by simp) ?_; refine AllReadyH.cons rfl (fun K hK => ?_) AllReadyH.nil; go_simp; (go_at_call 136; refine (Pe2.withDay_any _ st).mono ?_; rintro e x2 ⟨rfl, rfl⟩; have G2 := Lib.hid (World.grownBy_alloc X1 (.cells #[.bool st] 4 (0, 0)) none); have C2 := Lib.hid (box_new X1 #[.bool st] 4); generalize X1.alloc (.cells #[.bool st] 4 (0, 0)) = X2 at *; generalize X1.heap.size = da at *; have H2 := Lib.hid (grownN_trans H1.out G2.out))
    refine hK.out _ _ ?_ (fun hHeld => ?_)
    · exact four (BK.out.grown H2.out)
    clear hK K
    (try simp only [Act.put, List.getElem_toArray, List.getElem_cons_succ, List.getElem_cons_zero, List.setIfInBounds_toArray, List.set_cons_zero, List.set_cons_succ])
    have G3 := Lib.hid (World.grownBy_alloc X2 (.cells #[.func (.func 171) #[] #[.pointer (some ⟨ca, 0, none⟩)], .func (.func 172) #[] #[.pointer (some ⟨da, 0, none⟩)]] 141 (0, 0)) none)
    have C3 := Lib.hid (box_new X2 #[.func (.func 171) #[] #[.pointer (some ⟨ca, 0, none⟩)], .func (.func 172) #[] #[.pointer (some ⟨da, 0, none⟩)]] 141)
    have H3 := Lib.hid (grownN_trans H2.out G3.out)
    refine wpAnyH_ready (rs := [5]) (by kernel_rfl) (by simp) ?_; refine AllReadyH.cons rfl (fun K hK => ?_) AllReadyH.nil; go_simp
    refine hK.out _ _ (four (BK.out.grown H3.out)) (fun hHeld => ?_)
    clear hK K
    (try simp only [Act.put, List.getElem_toArray, List.getElem_cons_succ, List.getElem_cons_zero, List.setIfInBounds_toArray, List.set_cons_zero, List.set_cons_succ])
    generalize X2.alloc (.cells #[.func (.func 171) #[] #[.pointer (some ⟨ca, 0, none⟩)], .func (.func 172) #[] #[.pointer (some ⟨da, 0, none⟩)]] 141 (0, 0)) = X3 at *
    generalize X2.heap.size = og at *
    refine wpAnyH_ready (rs := [6]) (by kernel_rfl) (by simp) ?_; refine AllReadyH.cons rfl (fun K hK => ?_) AllReadyH.nil; go_simp; (go_at_call 83; refine (Pe2.from2_any _ n g a st _ _ og ca da L P (HUK.out.grown H3.out).sees (HTK.out.grown H3.out).sees HLL.out HPP.out ⟨C3.out, G3.out.cell (G2.out.cell (C1.out.cell 0) (by simp)) (by simp), G3.out.cell (C2.out.cell 0) (by simp)⟩).mono ?_; rintro e x4 ⟨u2, t2, rfl, hu, ht, hap, hg⟩; obtain ⟨va, vn, vc, hv', HVN⟩ := hu.sees.shape; subst hv'; obtain ⟨qa, qn, qc, hq', HQN⟩ := ht.sees.shape; subst hq'; have H4 := Lib.hid (grownN_trans H3.out hg); have HBR := Lib.hid (BR.out.grown H4.out); have hL4 := (BR.out.grown H3.out).lt; have HU4 := Lib.hid hu; have HT4 := Lib.hid ht; have HAP4 := Lib.hid hap; have HX3 := Lib.hid (grownN_trans HGK.out H3.out).size; have HNK := Lib.hid BK.out.lt; clear hu ht hap hg)
    refine hK.out _ _ ?_ (fun hHeld => ?_)
    · exact four (BK.out.grown H4.out)
    clear hK K
    (try simp only [Act.put, List.getElem_toArray, List.getElem_cons_succ, List.getElem_cons_zero, List.setIfInBounds_toArray, List.set_cons_zero, List.set_cons_succ])
    obtain ⟨⟨p0, r0⟩, ⟨p1, r1⟩, ⟨p2, r2⟩, ⟨p3, r3⟩⟩ := put4_on HBR.out (.int .i64 a) (.int .i64 g) (.slice va vn vc) (.slice qa qn qc)
    have hP4 := put4_grown x4 (w.heap.size + 1) (.int .i64 a) (.int .i64 g) (.slice va vn vc) (.slice qa qn qc)
    refine wpAnyH_ready (rs := [7]) (by kernel_rfl) (by simp) ?_; refine AllReadyH.cons rfl (fun K hK => ?_) AllReadyH.nil; go_simp
    refine hK.out _ _ (four ((BK.out.grown H4.out).kept hP4 (by intro e; injection e with e; have := HKA.out; omega))) (fun hHeld => ?_)
    clear hK K
    (try simp only [Act.put, List.getElem_toArray, List.getElem_cons_succ, List.getElem_cons_zero, List.setIfInBounds_toArray, List.set_cons_zero, List.set_cons_succ])
    refine wpAnyH_take (i := 8) (v := ?_) rfl (by kernel_rfl) (by kernel_rfl) (by kernel_rfl) (fun _ _ _ h => h) (Or.inl ⟨by rfl, ?_⟩) (by assumption) ?_; rotate_left; (focus (intro wS hSw; (try dsimp only at hSw); go_simp <;> with_reducible rfl)); (try simp only [Act.put, List.getElem_toArray, List.getElem_cons_succ, List.getElem_cons_zero, List.setIfInBounds_toArray, List.set_cons_zero, List.set_cons_succ])
    refine wpAnyH_done (by kernel_rfl) ?_ _
    (try simp only [Act.put, List.getElem_toArray, List.getElem_cons_succ, List.getElem_cons_zero, List.setIfInBounds_toArray, List.set_cons_zero, List.set_cons_succ])
    go_wp2
    try simp only [Exit.inBlock, Exit.then]
    have hlt := B1.out.lt
    refine ret_box1 rfl rfl (put4_box (x' := .int .i64 a) (y' := .int .i64 g) (z' := (.slice va vn vc)) (u' := (.slice qa qn qc)) HBR.out) Tryz.underlying44 rfl (by kernel_rfl) rfl ?_
    exact ⟨(.slice va vn vc), (.slice qa qn qc), by rw [HN.out, HB.out, ← HGE.out]; rfl, (HU4.out.kept hP4 (.inr (HU4.out.off (by omega)))).lower HX3.out, by rw [HQ.out]; exact (HT4.out.kept hP4 (.inr (HT4.out.off (by omega)))).lower HX3.out, HAP4.out, grown_new (grownN_trans HGK.out H4.out) hP4 (fun c h => by injection h with h; omega)⟩
end Go.Proofs.YtbjnbaddbanhbaaGreat.Day

namespace Go.Proofs.YtbjnbaddbanhbaaGreat.Hom
open Stm

/-- The days till k of them have been without storm, storms as early as can be: true is a storm. So many at most are looked at. -/
def sg (m n : Nat) : Nat → List Bool → Nat → List Bool
  | 0, _, _ => []
  | f + 1, L, k => if k = 0 then [] else may m n L :: sg m n f (L ++ [may m n L]) (if may m n L = true then k else k - 1)
theorem sg_same {m n : Nat} (hm : m < n) (hn : n ≤ 10) : ∀ (f g : Nat) (L : List Bool) (k : Nat), mu L k ≤ f → mu L k ≤ g → sg m n f L k = sg m n g L k
  | 0, g, L, k, hf, _ => by
    have : k = 0 := by unfold mu at hf; omega
    subst this
    cases g <;> simp [sg]
  | f + 1, 0, L, k, _, hg => by
    have : k = 0 := by unfold mu at hg; omega
    subst this
    simp [sg]
  | f + 1, g + 1, L, k, hf, hg => by
    unfold sg
    by_cases hk : k = 0
    · rw [if_pos hk, if_pos hk]
    · rw [if_neg hk, if_neg hk]
      have := mu_next (L := L) hm hn hk
      rw [sg_same hm hn f g _ _ (by omega) (by omega)]
/-- The weather of the worst return. -/
def signs (m n : Nat) (L : List Bool) (k : Nat) : List Bool := sg m n (mu L k) L k
theorem signs_zero (m n : Nat) (L : List Bool) : signs m n L 0 = [] := by
  unfold signs
  cases mu L 0 <;> simp [sg]
theorem signs_next {m n : Nat} {L : List Bool} {k : Nat} (hm : m < n) (hn : n ≤ 10) (hk : k ≠ 0) : signs m n L k = may m n L :: signs m n (L ++ [may m n L]) (if may m n L = true then k else k - 1) := by
  have h := mu_next (L := L) hm hn hk
  have e : mu L k = (mu L k - 1) + 1 := by omega
  unfold signs
  rw [e, sg, if_neg hk, sg_same hm hn _ (mu (L ++ [may m n L]) (if may m n L = true then k else k - 1)) _ _ (by omega) (Nat.le_refl _)]
theorem signs_storm {m n : Nat} {L : List Bool} {k : Nat} (hm : m < n) (hn : n ≤ 10) (hk : k ≠ 0) (h : may m n L = true) : signs m n L k = true :: signs m n (L ++ [true]) k := by
  have := signs_next (L := L) hm hn hk
  rwa [h, if_pos rfl] at this
theorem signs_calm {m n : Nat} {L : List Bool} {k : Nat} (hm : m < n) (hn : n ≤ 10) (hk : k ≠ 0) (h : may m n L = false) : signs m n L k = false :: signs m n (L ++ [false]) (k - 1) := by
  have := signs_next (L := L) hm hn hk
  rwa [h, if_neg (by simp)] at this
theorem sg_len {m n : Nat} : ∀ (f : Nat) (L : List Bool) (k : Nat), (sg m n f L k).length ≤ f
  | 0, _, _ => by simp [sg]
  | f + 1, L, k => by
    unfold sg
    split
    · simp
    · have := sg_len (m := m) (n := n) f (L ++ [may m n L]) (if may m n L = true then k else k - 1)
      simp; omega
theorem signs_len (m n : Nat) (L : List Bool) (k : Nat) : (signs m n L k).length ≤ k * 20 + 10 := by
  have := sg_len (m := m) (n := n) (mu L k) L k
  unfold signs
  unfold mu at this ⊢
  omega
theorem may_alike {m n : Nat} {L M : List Bool} (h : ∀ j, j ≤ n - 1 → lastN j L = lastN j M) : may m n L = may m n M := by
  unfold may; rw [h (n - 1) (Nat.le_refl _)]
theorem alike_next {n : Nat} {L M : List Bool} (s : Bool) (h : ∀ j, j ≤ n - 1 → lastN j L = lastN j M) : ∀ j, j ≤ n - 1 → lastN j (L ++ [s]) = lastN j (M ++ [s]) := fun j hj => by
  match j with
  | 0 => rw [lastN_zero, lastN_zero]
  | j + 1 => rw [lastN_next, lastN_next, h j (by omega)]
/-- The number of calm days in a weather. -/
def calms (S : List Bool) : Nat := S.countP (fun b => !b)
theorem run_alike {m n : Nat} (hm : m < n) (hn : n ≤ 10) : ∀ (f : Nat) (L M : List Bool) (k : Nat), mu L k + mu M k ≤ f → (∀ j, j ≤ n - 1 → lastN j L = lastN j M) → signs m n L k = signs m n M k
  | 0, L, M, k, hf, _ => by
    have : k = 0 := by unfold mu at hf; omega
    subst this
    rw [signs_zero, signs_zero]
  | f + 1, L, M, k, hf, h => by
    by_cases hk : k = 0
    · subst hk; rw [signs_zero, signs_zero]
    · have e := may_alike (m := m) h
      have h1 := mu_next (L := L) hm hn hk
      have h2 := mu_next (L := M) hm hn hk
      rw [signs_next (L := L) hm hn hk, signs_next (L := M) hm hn hk]
      rw [e] at h1 ⊢
      rw [run_alike hm hn f (L ++ [may m n M]) (M ++ [may m n M]) _ (by omega) (alike_next _ h)]
theorem signs_alike {m n : Nat} {L M : List Bool} {k : Nat} (hm : m < n) (hn : n ≤ 10) (h : ∀ j, j ≤ n - 1 → lastN j L = lastN j M) : signs m n L k = signs m n M k := run_alike hm hn _ L M k (Nat.le_refl _) h
theorem addDay_alike {n : Nat} (hn : n ≤ 10) (L : List Bool) (s : Bool) : ∀ j, j ≤ n - 1 → lastN j (addDay L s) = lastN j (L ++ [s]) := fun j hj => lastN_addDay L s (by omega)

/-- The food at the end of a weather's days, each of which takes need; cells that are come to give some. -1: there is not enough. -/
def walk (need : Int) (pick : Int → Int → Int) : List Bool → List Int → Int → Int
  | [], _, f => f
  | true :: S, W, f => if f < need then -1 else walk need pick S W (f - need)
  | false :: S, W, f => if f < need then -1 else
    match W with
    | [] => walk need pick S [] (f - need)
    | c :: W => walk need pick S W (pick c (f - need))
theorem walk_no {need : Int} {pick : Int → Int → Int} {s : Bool} {S : List Bool} {W : List Int} {f : Int} (h : f < need) : walk need pick (s :: S) W f = -1 := by
  cases s <;> simp [walk, h]
theorem walk_storm {need : Int} {pick : Int → Int → Int} {S : List Bool} {W : List Int} {f : Int} (h : ¬ f < need) : walk need pick (true :: S) W f = walk need pick S W (f - need) := by
  simp [walk, h]
theorem walk_calm {need : Int} {pick : Int → Int → Int} {S : List Bool} {c : Int} {W : List Int} {f : Int} (h : ¬ f < need) : walk need pick (false :: S) (c :: W) f = walk need pick S W (pick c (f - need)) := by
  simp [walk, h]
end Go.Proofs.YtbjnbaddbanhbaaGreat.Hom

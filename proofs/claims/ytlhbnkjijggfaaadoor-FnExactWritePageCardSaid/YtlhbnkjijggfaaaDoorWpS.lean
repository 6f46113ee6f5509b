/- Contracts of a page that is written: the model's. -/
import Derived.Test.YtlhbnkjijggfaaaDoorWrp
namespace Go.Proofs.YtlhbnkjijggfaaaDoor.Wrp
open Go.RowKit Kit Rw Rg Md Four Hs Jrn

set_option maxRecDepth 20000 in
set_option maxHeartbeats 4000000 in
theorem sWrite_any (w : World) (v : Value) (L : List I4) (d c f : Int) (h0 : (Lit.int .i64 d).wf = true) (h1 : (Lit.int .i64 c).wf = true) (h2 : (Lit.int .i64 f).wf = true) (hv : SeesG enc4 w v L) (hn : L.length ≤ 100000000) :
    Calls Tryd.prog 20 #[v, .int .i64 d, .int .i64 c, .int .i64 f] w fun e w' => ∃ u, e = .returned (.tuple #[u, .bool (ok L d c f)]) ∧ OwnG enc4 64 w' w.heap.size u (res L d c f) ∧ w.grownBy w' none := by
  have hl := hv.len
  have HV := Lib.hid hv
  have HVS := Lib.hid (fun W hg => hv.grown (w' := W) hg)
  have HXO := Lib.hid (newP_ok L h0 h1 h2)
  have HPO : Hid (enc4.ok ⟨d, c, f, 0⟩) := ⟨h0, h1, h2, show (Lit.int .i64 0).wf = true by decide⟩
  have hyo : (Lit.int .i64 (prev L L.length).x3).wf = true := by
    cases hL : L.length with
    | zero => rw [prev_zero]; decide
    | succ k => rw [prev_succ]; exact (hv.ok _ (memG (d := zI4) (by omega))).2.2.2
  obtain ⟨i0, hi, hz0, hz1, hz2⟩ := info_parts info_page
  obtain ⟨x, hx⟩ : ∃ x, x = newP L d c f := ⟨_, rfl⟩
  have HX : Hid (x = ⟨d, c, f, sealT (prev L L.length).x3 ⟨d, c, f, 0⟩⟩) := hx
  have HOK : Hid (ok L d c f = isJ (L ++ [x])) := by show _ = _; rw [hx]; rfl
  have HRES : Hid (res L d c f = if isJ (L ++ [x]) = true then L ++ [x] else L) := by show _ = _; rw [hx]; rfl
  rw [← hx] at HXO
  obtain ⟨y3, hy⟩ : ∃ y3, y3 = (prev L L.length).x3 := ⟨_, rfl⟩
  rw [← hy] at HX hyo
  have HYO := Lib.hid hyo
  have hgp := World.grownBy_alloc w (.cells #[.int .i64 d, .int .i64 c, .int .i64 f, .int .i64 0] 64 (0, 0)) (none : Option Nat)
  have hbp := box_new w #[.int .i64 d, .int .i64 c, .int .i64 f, .int .i64 0] 64
  obtain ⟨m0, m1, m2, m3⟩ := four hbp
  have HP := Lib.hid hbp
  have HGP := Lib.hid hgp
  have HPS : Hid (w.heap.size ≤ w.heap.size) := Nat.le_refl _
  have hsl := sSeal_any (w.alloc (.cells #[.int .i64 d, .int .i64 c, .int .i64 f, .int .i64 0] 64 (0, 0))) y3 ⟨d, c, f, 0⟩ hyo HPO.out
  obtain ⟨s, hs⟩ : ∃ s, s = sealT y3 ⟨d, c, f, 0⟩ := ⟨_, rfl⟩
  have HSQ : Hid (s = sealT y3 ⟨d, c, f, 0⟩) := hs
  have HXC : Hid (x = ⟨d, c, f, s⟩) := by show _ = _; rw [hs]; exact HX.out
  have HXV := HXC.out
  subst HXV
  have HSL := Lib.hid hsl
  obtain ⟨a, cap, rfl, _⟩ := hv
  clear hs hgp hbp hsl hx h0 h1 h2 hyo
  by_cases hlt : 0 < L.length
  · obtain ⟨b, o, rfl, _, _⟩ := HV.out.at_row (show L.length - 1 < L.length by omega)
    have d3 := (at4_in HV.out HGP.out (show L.length - 1 < L.length by omega) rfl).2.2.2
    rw [show (L.getD (L.length - 1) zI4).x3 = y3 by rw [hy]; unfold prev; rw [if_neg (by omega)]] at d3
    have hltI : (0 : Int) < (L.length : Int) := by omega
    have hkI : ((L.length : Int) - 1).toNat = L.length - 1 := by omega
    have hwr : IntKind.i64.wrap ((L.length : Int) - 1) = (L.length : Int) - 1 := IntWalk.i64_in _ (by omega)
    have hk0 : (0 : Int) ≤ (L.length : Int) - 1 := by omega
    have hk1 : (L.length : Int) - 1 < (L.length : Int) := by omega
    clear hy
    go_enter Tryd.func20, Tryd.ntmps20
    go_wp2_with fail
    refine HSL.out.mono ?_
    rintro e w2 ⟨rfl, hg⟩
    rw [← HSQ.out]
    have hb3 := HP.out.grown hg
    have hf := hb3.free 3
    have h3c := hb3.cell 3
    have HB3 := Lib.hid (four_set3 (v := .int .i64 s) hb3)
    have HG3 := Lib.hid (grown_new (grownN_trans HGP.out hg) (grown_set w2 w.heap.size 3 (.int .i64 s)) (fun c h => by injection h with h; have := HPS.out; omega))
    clear hb3 hg
    go_wp2_with fail
    generalize w2.setCell ⟨w.heap.size, 3, none⟩ (.int .i64 s) = w3 at *
    have HD := Lib.hid (grown_drew (World.grownBy.refl w3 none))
    have HDW := Lib.hid HG3.out
    have HPG : Hid (∀ W, w3.grownBy W none → W.cell? ⟨w.heap.size, 0, none⟩ = some (.int .i64 d) ∧ W.cell? ⟨w.heap.size, 1, none⟩ = some (.int .i64 c) ∧ W.cell? ⟨w.heap.size, 2, none⟩ = some (.int .i64 f) ∧ W.cell? ⟨w.heap.size, 3, none⟩ = some (.int .i64 s)) := fun W hg => four (HB3.out.grown hg)
    have HVS := Lib.hid (fun W hg => HVS.out W (grownN_trans HG3.out hg))
    have HS3 : Hid (w.heap.size ≤ w3.heap.size) := HG3.out.size
    go_region_held_law (fun w' => w'.cell? ⟨w.heap.size, 0, none⟩ = some (.int .i64 d) ∧ w'.cell? ⟨w.heap.size, 1, none⟩ = some (.int .i64 c) ∧ w'.cell? ⟨w.heap.size, 2, none⟩ = some (.int .i64 f) ∧ w'.cell? ⟨w.heap.size, 3, none⟩ = some (.int .i64 s)) (first | exact HPG.out _ (HD.out) | exact HPG.out _ (grown_drew (World.grownBy_alloc _ _ none)) | exact HPG.out _ (grown_drew (grownN_trans (World.grownBy_alloc _ _ none) (World.grownBy_alloc _ _ none))) | exact HPG.out _ (HG2.out) | exact HPG.out _ (grownN_trans HG2.out (World.grownBy_alloc _ _ none)) | exact HPG.out _ (HG4.out)) (first | (refine stepG_append (e := enc4) _ (by rfl) _ _ _ (by rfl) w3.heap.size 64 i0 (.agg #[.int .i64 0, .int .i64 0, .int .i64 0, .int .i64 0]) 32 Tryd.underlying25 hi hz0 hz1 hz2 (by rfl) _ [] (by rfl) (by first | exact (ownG_empty w3).grown (grown_drew (World.grownBy.refl _ none)) | exact (ownG_empty w3).grown (grown_drew (World.grownBy_alloc _ _ none)) | (have h := (ownG_empty (e := enc4) (E := 64) (w3.alloc (.cells #[.int .i64 d, .int .i64 c, .int .i64 f, .int .i64 s] 64 (0, 0)))).grown (grown_drew (World.grownBy.refl _ none)); simp only [World.size_alloc] at h; exact h.lower (Nat.le_succ _))) _ L (by rfl) (HVS.out _ (by first | exact HD.out | exact grown_drew (World.grownBy_alloc _ _ none) | exact grown_drew (grownN_trans (World.grownBy_alloc _ _ none) (World.grownBy_alloc _ _ none)) | exact HG2.out | exact grownN_trans HG2.out (World.grownBy_alloc _ _ none) | exact HG4.out)) (by unfold maxLen; simp; omega) (by simp; omega) w3 (by first | exact HD.out | exact grown_drew (World.grownBy_alloc _ _ none) | exact grown_drew (grownN_trans (World.grownBy_alloc _ _ none) (World.grownBy_alloc _ _ none)) | exact HG2.out | exact grownN_trans HG2.out (World.grownBy_alloc _ _ none) | exact HG4.out) rfl ?_; intro v2 w2 ho2 hgr2 hw2; rw [List.nil_append] at ho2; have HO2 := Lib.hid ho2; have HG2 := Lib.hid hw2; clear ho2 hw2) | (refine stepG_append (e := enc4) _ (by rfl) _ _ _ (by rfl) w3.heap.size 64 i0 (.agg #[.int .i64 0, .int .i64 0, .int .i64 0, .int .i64 0]) 32 Tryd.underlying25 hi hz0 hz1 hz2 (by rfl) _ L (by rfl) (by first | exact HO2.out | exact HO2.out.grown (World.grownBy_alloc _ _ _)) _ [(⟨d, c, f, s⟩ : I4)] (by rfl) (by first | exact seesG_one (e := enc4) (E := 64) _ (⟨d, c, f, s⟩ : I4) #[.int .i64 d, .int .i64 c, .int .i64 f, .int .i64 s] rfl HXO.out | (have h := seesG_one (e := enc4) (E := 64) (w3.alloc (.cells #[] 64 (0, 0))) (⟨d, c, f, s⟩ : I4) #[.int .i64 d, .int .i64 c, .int .i64 f, .int .i64 s] rfl HXO.out; simp only [World.size_alloc] at h; exact (h.grown (grown_drew (World.grownBy.refl _ none))).kept hgr2 (.inr (fun hh => absurd (Option.some.inj (show some (w3.heap.size + 1) = some w3.heap.size from hh)) (by omega)))) | exact ((seesG_one (e := enc4) (E := 64) w3 (⟨d, c, f, s⟩ : I4) #[.int .i64 d, .int .i64 c, .int .i64 f, .int .i64 s] rfl HXO.out).grown (grown_drew (World.grownBy_alloc _ _ none))).kept hgr2 (.inr (fun hh => absurd (Option.some.inj (show some w3.heap.size = some (w3.heap.size + 1) from hh)) (by omega)))) (by unfold maxLen; simp; omega) (by simp; omega) w3 (by first | exact HD.out | exact grown_drew (World.grownBy_alloc _ _ none) | exact grown_drew (grownN_trans (World.grownBy_alloc _ _ none) (World.grownBy_alloc _ _ none)) | exact HG2.out | exact grownN_trans HG2.out (World.grownBy_alloc _ _ none) | exact HG4.out) rfl ?_; intro v4 w4 ho4 hgr4 hw4; have HO4 := Lib.hid ho4; have HG4 := Lib.hid hw4; clear ho4 hgr4 hw4))
    all_goals
      have HJ := Lib.hid (sIsJ_any w4 v4 _ HO4.out.sees)
      go_wp2_with fail
      refine HJ.out.mono ?_
      rintro e w5 ⟨rfl, hg⟩
      have HG5 := Lib.hid (grownN_trans (grownN_trans HG3.out HG4.out) hg)
      have HO5 := Lib.hid (HO4.out.grown hg)
      clear hg
      cases hok : isJ (L ++ [(⟨d, c, f, s⟩ : I4)])
      · have HR : Hid (ok L d c f = false ∧ res L d c f = L) := ⟨by rw [HOK.out, hok], by rw [HRES.out, if_neg (by rw [hok]; decide)]⟩
        have hgz := World.grownBy_alloc w5 (.cells #[] 64 (0, 0)) (none : Option Nat)
        have HGZ := Lib.hid (grownN_trans HG5.out hgz)
        have HWZ : Hid (OwnG enc4 64 (w5.alloc (.cells #[] 64 (0, 0))) w5.heap.size (.slice (some ⟨w5.heap.size, 0, none⟩) 0 0) []) := ownG_empty w5
        have HVZ := Lib.hid (HV.out.grown HGZ.out)
        have HS5 := Lib.hid HG5.out.size
        clear hok hgz
        go_wp2_with (at_builtin; go_loud (refine wpListG_append_sees _ rfl _ _ 25 rfl w5.heap.size 64 i0 (.agg #[.int .i64 0, .int .i64 0, .int .i64 0, .int .i64 0]) 32 Tryd.underlying25 hi hz0 hz1 hz2 rfl _ [] rfl HWZ.out _ L rfl HVZ.out (by unfold maxLen; simp; omega) (by simp; omega) (by simp) ?_); intro u6 w6 hown6 hgrow6; rw [List.nil_append] at hown6; have HO6 := Lib.hid (hown6.lower HS5.out); have HG6 := Lib.hid (grown_new HGZ.out hgrow6 (fun c hc => by have h1 := (HWZ.out.lt c hc).1; have h2 := HS5.out; omega)); clear hown6 hgrow6)
        go_ret2
        exact ⟨_, ret_t HR.out.1.symm, by rw [HR.out.2]; exact HO6.out, HG6.out⟩
      · have HR : Hid (ok L d c f = true ∧ res L d c f = L ++ [(⟨d, c, f, s⟩ : I4)]) := ⟨by rw [HOK.out, hok], by rw [HRES.out, if_pos hok]⟩
        clear hok
        go_wp2
        go_ret2
        exact ⟨_, ret_t HR.out.1.symm, by rw [HR.out.2]; exact HO5.out.lower HS3.out, HG5.out⟩
  · have hL0 : L.length = 0 := by omega
    have hltI : ¬ ((0 : Int) < (L.length : Int)) := by omega
    have hy0 : y3 = 0 := by rw [hy, hL0, prev_zero]; rfl
    subst hy0
    clear hy hL0 hlt
    go_enter Tryd.func20, Tryd.ntmps20
    go_wp2_with fail
    refine HSL.out.mono ?_
    rintro e w2 ⟨rfl, hg⟩
    rw [← HSQ.out]
    have hb3 := HP.out.grown hg
    have hf := hb3.free 3
    have h3c := hb3.cell 3
    have HB3 := Lib.hid (four_set3 (v := .int .i64 s) hb3)
    have HG3 := Lib.hid (grown_new (grownN_trans HGP.out hg) (grown_set w2 w.heap.size 3 (.int .i64 s)) (fun c h => by injection h with h; have := HPS.out; omega))
    clear hb3 hg
    go_wp2_with fail
    generalize w2.setCell ⟨w.heap.size, 3, none⟩ (.int .i64 s) = w3 at *
    have HD := Lib.hid (grown_drew (World.grownBy.refl w3 none))
    have HDW := Lib.hid HG3.out
    have HPG : Hid (∀ W, w3.grownBy W none → W.cell? ⟨w.heap.size, 0, none⟩ = some (.int .i64 d) ∧ W.cell? ⟨w.heap.size, 1, none⟩ = some (.int .i64 c) ∧ W.cell? ⟨w.heap.size, 2, none⟩ = some (.int .i64 f) ∧ W.cell? ⟨w.heap.size, 3, none⟩ = some (.int .i64 s)) := fun W hg => four (HB3.out.grown hg)
    have HVS := Lib.hid (fun W hg => HVS.out W (grownN_trans HG3.out hg))
    have HS3 : Hid (w.heap.size ≤ w3.heap.size) := HG3.out.size
    go_region_held_law (fun w' => w'.cell? ⟨w.heap.size, 0, none⟩ = some (.int .i64 d) ∧ w'.cell? ⟨w.heap.size, 1, none⟩ = some (.int .i64 c) ∧ w'.cell? ⟨w.heap.size, 2, none⟩ = some (.int .i64 f) ∧ w'.cell? ⟨w.heap.size, 3, none⟩ = some (.int .i64 s)) (first | exact HPG.out _ (HD.out) | exact HPG.out _ (grown_drew (World.grownBy_alloc _ _ none)) | exact HPG.out _ (grown_drew (grownN_trans (World.grownBy_alloc _ _ none) (World.grownBy_alloc _ _ none))) | exact HPG.out _ (HG2.out) | exact HPG.out _ (grownN_trans HG2.out (World.grownBy_alloc _ _ none)) | exact HPG.out _ (HG4.out)) (first | (refine stepG_append (e := enc4) _ (by rfl) _ _ _ (by rfl) w3.heap.size 64 i0 (.agg #[.int .i64 0, .int .i64 0, .int .i64 0, .int .i64 0]) 32 Tryd.underlying25 hi hz0 hz1 hz2 (by rfl) _ [] (by rfl) (by first | exact (ownG_empty w3).grown (grown_drew (World.grownBy.refl _ none)) | exact (ownG_empty w3).grown (grown_drew (World.grownBy_alloc _ _ none)) | (have h := (ownG_empty (e := enc4) (E := 64) (w3.alloc (.cells #[.int .i64 d, .int .i64 c, .int .i64 f, .int .i64 s] 64 (0, 0)))).grown (grown_drew (World.grownBy.refl _ none)); simp only [World.size_alloc] at h; exact h.lower (Nat.le_succ _))) _ L (by rfl) (HVS.out _ (by first | exact HD.out | exact grown_drew (World.grownBy_alloc _ _ none) | exact grown_drew (grownN_trans (World.grownBy_alloc _ _ none) (World.grownBy_alloc _ _ none)) | exact HG2.out | exact grownN_trans HG2.out (World.grownBy_alloc _ _ none) | exact HG4.out)) (by unfold maxLen; simp; omega) (by simp; omega) w3 (by first | exact HD.out | exact grown_drew (World.grownBy_alloc _ _ none) | exact grown_drew (grownN_trans (World.grownBy_alloc _ _ none) (World.grownBy_alloc _ _ none)) | exact HG2.out | exact grownN_trans HG2.out (World.grownBy_alloc _ _ none) | exact HG4.out) rfl ?_; intro v2 w2 ho2 hgr2 hw2; rw [List.nil_append] at ho2; have HO2 := Lib.hid ho2; have HG2 := Lib.hid hw2; clear ho2 hw2) | (refine stepG_append (e := enc4) _ (by rfl) _ _ _ (by rfl) w3.heap.size 64 i0 (.agg #[.int .i64 0, .int .i64 0, .int .i64 0, .int .i64 0]) 32 Tryd.underlying25 hi hz0 hz1 hz2 (by rfl) _ L (by rfl) (by first | exact HO2.out | exact HO2.out.grown (World.grownBy_alloc _ _ _)) _ [(⟨d, c, f, s⟩ : I4)] (by rfl) (by first | exact seesG_one (e := enc4) (E := 64) _ (⟨d, c, f, s⟩ : I4) #[.int .i64 d, .int .i64 c, .int .i64 f, .int .i64 s] rfl HXO.out | (have h := seesG_one (e := enc4) (E := 64) (w3.alloc (.cells #[] 64 (0, 0))) (⟨d, c, f, s⟩ : I4) #[.int .i64 d, .int .i64 c, .int .i64 f, .int .i64 s] rfl HXO.out; simp only [World.size_alloc] at h; exact (h.grown (grown_drew (World.grownBy.refl _ none))).kept hgr2 (.inr (fun hh => absurd (Option.some.inj (show some (w3.heap.size + 1) = some w3.heap.size from hh)) (by omega)))) | exact ((seesG_one (e := enc4) (E := 64) w3 (⟨d, c, f, s⟩ : I4) #[.int .i64 d, .int .i64 c, .int .i64 f, .int .i64 s] rfl HXO.out).grown (grown_drew (World.grownBy_alloc _ _ none))).kept hgr2 (.inr (fun hh => absurd (Option.some.inj (show some w3.heap.size = some (w3.heap.size + 1) from hh)) (by omega)))) (by unfold maxLen; simp; omega) (by simp; omega) w3 (by first | exact HD.out | exact grown_drew (World.grownBy_alloc _ _ none) | exact grown_drew (grownN_trans (World.grownBy_alloc _ _ none) (World.grownBy_alloc _ _ none)) | exact HG2.out | exact grownN_trans HG2.out (World.grownBy_alloc _ _ none) | exact HG4.out) rfl ?_; intro v4 w4 ho4 hgr4 hw4; have HO4 := Lib.hid ho4; have HG4 := Lib.hid hw4; clear ho4 hgr4 hw4))
    all_goals
      have HJ := Lib.hid (sIsJ_any w4 v4 _ HO4.out.sees)
      go_wp2_with fail
      refine HJ.out.mono ?_
      rintro e w5 ⟨rfl, hg⟩
      have HG5 := Lib.hid (grownN_trans (grownN_trans HG3.out HG4.out) hg)
      have HO5 := Lib.hid (HO4.out.grown hg)
      clear hg
      cases hok : isJ (L ++ [(⟨d, c, f, s⟩ : I4)])
      · have HR : Hid (ok L d c f = false ∧ res L d c f = L) := ⟨by rw [HOK.out, hok], by rw [HRES.out, if_neg (by rw [hok]; decide)]⟩
        have hgz := World.grownBy_alloc w5 (.cells #[] 64 (0, 0)) (none : Option Nat)
        have HGZ := Lib.hid (grownN_trans HG5.out hgz)
        have HWZ : Hid (OwnG enc4 64 (w5.alloc (.cells #[] 64 (0, 0))) w5.heap.size (.slice (some ⟨w5.heap.size, 0, none⟩) 0 0) []) := ownG_empty w5
        have HVZ := Lib.hid (HV.out.grown HGZ.out)
        have HS5 := Lib.hid HG5.out.size
        clear hok hgz
        go_wp2_with (at_builtin; go_loud (refine wpListG_append_sees _ rfl _ _ 25 rfl w5.heap.size 64 i0 (.agg #[.int .i64 0, .int .i64 0, .int .i64 0, .int .i64 0]) 32 Tryd.underlying25 hi hz0 hz1 hz2 rfl _ [] rfl HWZ.out _ L rfl HVZ.out (by unfold maxLen; simp; omega) (by simp; omega) (by simp) ?_); intro u6 w6 hown6 hgrow6; rw [List.nil_append] at hown6; have HO6 := Lib.hid (hown6.lower HS5.out); have HG6 := Lib.hid (grown_new HGZ.out hgrow6 (fun c hc => by have h1 := (HWZ.out.lt c hc).1; have h2 := HS5.out; omega)); clear hown6 hgrow6)
        go_ret2
        exact ⟨_, ret_t HR.out.1.symm, by rw [HR.out.2]; exact HO6.out, HG6.out⟩
      · have HR : Hid (ok L d c f = true ∧ res L d c f = L ++ [(⟨d, c, f, s⟩ : I4)]) := ⟨by rw [HOK.out, hok], by rw [HRES.out, if_pos hok]⟩
        clear hok
        go_wp2
        go_ret2
        exact ⟨_, ret_t HR.out.1.symm, by rw [HR.out.2]; exact HO5.out.lower HS3.out, HG5.out⟩
end Go.Proofs.YtlhbnkjijggfaaaDoor.Wrp

/- Contracts of a page that is written: the program's. -/
import Derived.Test.YtlhbnkjijggfaaaDoorWrp
namespace Go.Proofs.YtlhbnkjijggfaaaDoor.Wrp
open Go.RowKit Kit Rw Rg Md Four Hs Jrn

set_option maxRecDepth 20000 in
set_option maxHeartbeats 4000000 in
theorem iWrite_any (w : World) (v : Value) (L : List I4) (d c f : Int) (h0 : (Lit.int .i64 d).wf = true) (h1 : (Lit.int .i64 c).wf = true) (h2 : (Lit.int .i64 f).wf = true) (hv : SeesG enc4 w v L) (hn : L.length ≤ 100000000) (hc : VC w) :
    Calls Tryd.prog 21 #[v, .int .i64 d, .int .i64 c, .int .i64 f] w fun e w' => ∃ u, e = .returned (.tuple #[u, .bool (ok L d c f)]) ∧ OwnG enc4 64 w' w.heap.size u (res L d c f) ∧ w.grownBy w' none := by
  have hl := hv.len
  have HV := Lib.hid hv
  have HVC := Lib.hid hc
  have HVS := Lib.hid (fun W hg => hv.grown (w' := W) hg)
  have HXO := Lib.hid (newP_ok L h0 h1 h2)
  have HPO : Hid (enc4.ok ⟨d, c, f, 0⟩) := ⟨h0, h1, h2, show (Lit.int .i64 0).wf = true by decide⟩
  have HYO : Hid (enc4.ok (prev L L.length)) := by
    show enc4.ok _
    cases hL : L.length with
    | zero => rw [prev_zero]; exact ⟨by decide, by decide, by decide, by decide⟩
    | succ k => rw [prev_succ]; exact hv.ok _ (memG (d := zI4) (by omega))
  have HRM := Lib.hid (fun W hg => room_any W v 1 L (hv.grown (w' := W) hg) (by omega) (by omega))
  have HCL := Lib.hid (fun W hg => clone_any W v L (hv.grown (w' := W) hg) (by omega))
  obtain ⟨i0, hi, hz0, hz1, hz2⟩ := info_parts info_page
  obtain ⟨x, hx⟩ : ∃ x, x = newP L d c f := ⟨_, rfl⟩
  have HX : Hid (x = ⟨d, c, f, sealT (prev L L.length).x3 ⟨d, c, f, 0⟩⟩) := hx
  have HOK : Hid (ok L d c f = isJ (L ++ [x])) := by show _ = _; rw [hx]; rfl
  have HRES : Hid (res L d c f = if isJ (L ++ [x]) = true then L ++ [x] else L) := by show _ = _; rw [hx]; rfl
  rw [← hx] at HXO
  have c0 := hc 0
  have c1 := hc 1
  have c2 := hc 2
  have c3 := hc 3
  simp only [vals, List.getElem?_toArray, List.getElem?_cons_succ, List.getElem?_cons_zero] at c0 c1 c2 c3
  obtain ⟨y, hy⟩ : ∃ y, y = prev L L.length := ⟨_, rfl⟩
  rw [← hy] at HX HYO
  have hg1 := World.grownBy_alloc w (.cells #[.int .i64 (-1), .int .i64 0, .int .i64 0, .int .i64 0] 64 (0, 0)) (none : Option Nat)
  have HB1 := Lib.hid (box_new w #[.int .i64 (-1), .int .i64 0, .int .i64 0, .int .i64 0] 64)
  have HG1 := Lib.hid hg1
  obtain ⟨a, cap, rfl, _⟩ := hv
  clear hg1 hx hc h0 h1 h2
  by_cases hlt : 0 < L.length
  · obtain ⟨b, o, rfl, _, _⟩ := HV.out.at_row (show L.length - 1 < L.length by omega)
    obtain ⟨d0, d1, d2, d3⟩ := at4_in HV.out HG1.out (show L.length - 1 < L.length by omega) (show L.getD (L.length - 1) zI4 = y by rw [hy]; unfold prev; rw [if_neg (by omega)])
    have HBB := Lib.hid (box_new w #[.int .i64 y.x0, .int .i64 y.x1, .int .i64 y.x2, .int .i64 y.x3] 64)
    have HGB := Lib.hid (World.grownBy_alloc w (.cells #[.int .i64 y.x0, .int .i64 y.x1, .int .i64 y.x2, .int .i64 y.x3] 64 (0, 0)) (none : Option Nat))
    have hltI : (0 : Int) < (L.length : Int) := by omega
    have hkI : ((L.length : Int) - 1).toNat = L.length - 1 := by omega
    have hwr : IntKind.i64.wrap ((L.length : Int) - 1) = (L.length : Int) - 1 := IntWalk.i64_in _ (by omega)
    have hk0 : (0 : Int) ≤ (L.length : Int) - 1 := by omega
    have hk1 : (L.length : Int) - 1 < (L.length : Int) := by omega
    clear hy
    obtain ⟨y0, y1, y2, y3⟩ := y
    dsimp only at *
    have hsz : ((w.alloc (.cells #[.int .i64 y0, .int .i64 y1, .int .i64 y2, .int .i64 y3] 64 (0, 0)))).heap.size = w.heap.size + 1 := by simp
    have hgp := World.grownBy_alloc ((w.alloc (.cells #[.int .i64 y0, .int .i64 y1, .int .i64 y2, .int .i64 y3] 64 (0, 0)))) (.cells #[.int .i64 d, .int .i64 c, .int .i64 f, .int .i64 0] 64 (0, 0)) (none : Option Nat)
    have hbp := box_new ((w.alloc (.cells #[.int .i64 y0, .int .i64 y1, .int .i64 y2, .int .i64 y3] 64 (0, 0)))) #[.int .i64 d, .int .i64 c, .int .i64 f, .int .i64 0] 64
    rw [hsz] at hbp
    obtain ⟨k0, k1, k2, k3⟩ := four ((show Box (w.alloc (.cells #[.int .i64 y0, .int .i64 y1, .int .i64 y2, .int .i64 y3] 64 (0, 0))) w.heap.size #[.int .i64 y0, .int .i64 y1, .int .i64 y2, .int .i64 y3] 64 from HBB.out).grown hgp)
    obtain ⟨m0, m1, m2, m3⟩ := four hbp
    have HP := Lib.hid hbp
    have HGP := Lib.hid (grownN_trans (show w.grownBy (w.alloc (.cells #[.int .i64 y0, .int .i64 y1, .int .i64 y2, .int .i64 y3] 64 (0, 0))) none from HGB.out) hgp)
    have HPS : Hid (w.heap.size ≤ w.heap.size + 1) := Nat.le_succ _
    have hsl := iSeal_any (((w.alloc (.cells #[.int .i64 y0, .int .i64 y1, .int .i64 y2, .int .i64 y3] 64 (0, 0)))).alloc (.cells #[.int .i64 d, .int .i64 c, .int .i64 f, .int .i64 0] 64 (0, 0))) ⟨d, c, f, 0⟩ ⟨y0, y1, y2, y3⟩ HPO.out HYO.out
    obtain ⟨s, hs⟩ : ∃ s, s = sealT y3 ⟨d, c, f, 0⟩ := ⟨_, rfl⟩
    have HSQ : Hid (s = sealT y3 ⟨d, c, f, 0⟩) := hs
    have HXC : Hid (x = ⟨d, c, f, s⟩) := by show _ = _; rw [hs]; exact HX.out
    have HXV := HXC.out
    subst HXV
    have HSL := Lib.hid hsl
    clear hs hsz hgp hbp hsl
    go_enter Tryd.func21, Tryd.ntmps21
    go_wp2_with fail
    try simp only [World.size_alloc, World.size_setCell, Nat.add_assoc]
    refine HSL.out.mono ?_
    rintro e w2 ⟨rfl, hg⟩
    rw [← HSQ.out]
    have hb3 := HP.out.grown hg
    have hf := hb3.free 3
    have h3c := hb3.cell 3
    have HB3 := Lib.hid (four_set3 (v := .int .i64 s) hb3)
    have HG3 := Lib.hid (grown_new (grownN_trans HGP.out hg) (grown_set w2 (w.heap.size + 1) 3 (.int .i64 s)) (fun c h => by injection h with h; have := HPS.out; omega))
    clear hb3 hg
    go_wp2_with fail
    generalize w2.setCell ⟨(w.heap.size + 1), 3, none⟩ (.int .i64 s) = w3 at *
    have HD := Lib.hid (grown_drew (World.grownBy.refl w3 none))
    have HDW := Lib.hid HG3.out
    have HPG : Hid (∀ W, w3.grownBy W none → W.cell? ⟨(w.heap.size + 1), 0, none⟩ = some (.int .i64 d) ∧ W.cell? ⟨(w.heap.size + 1), 1, none⟩ = some (.int .i64 c) ∧ W.cell? ⟨(w.heap.size + 1), 2, none⟩ = some (.int .i64 f) ∧ W.cell? ⟨(w.heap.size + 1), 3, none⟩ = some (.int .i64 s)) := fun W hg => four (HB3.out.grown hg)
    have HVS := Lib.hid (fun W hg => HVS.out W (grownN_trans HG3.out hg))
    have HRM := Lib.hid (fun W hg => HRM.out W (grownN_trans HG3.out hg))
    have HS3 : Hid (w.heap.size ≤ w3.heap.size) := HG3.out.size
    go_region_held_law (fun w' => w'.cell? ⟨(w.heap.size + 1), 0, none⟩ = some (.int .i64 d) ∧ w'.cell? ⟨(w.heap.size + 1), 1, none⟩ = some (.int .i64 c) ∧ w'.cell? ⟨(w.heap.size + 1), 2, none⟩ = some (.int .i64 f) ∧ w'.cell? ⟨(w.heap.size + 1), 3, none⟩ = some (.int .i64 s)) (first | exact HPG.out _ (HD.out) | exact HPG.out _ (grown_drew (World.grownBy_alloc _ _ none)) | exact HPG.out _ (grown_drew (grownN_trans (World.grownBy_alloc _ _ none) (World.grownBy_alloc _ _ none))) | exact HPG.out _ (HG2.out) | exact HPG.out _ (grownN_trans HG2.out (World.grownBy_alloc _ _ none)) | exact HPG.out _ (HG4.out)) (first | (go_at_call 60; refine (HRM.out _ (by first | exact HD.out | exact grown_drew (World.grownBy_alloc _ _ none) | exact grown_drew (grownN_trans (World.grownBy_alloc _ _ none) (World.grownBy_alloc _ _ none)) | exact HG2.out | exact grownN_trans HG2.out (World.grownBy_alloc _ _ none) | exact HG4.out)).mono ?_; rintro e w2 ⟨v2, rfl, ho2, hgr2⟩; have HO2 : Hid (OwnG enc4 64 w2 w3.heap.size v2 L) := Lib.hid (ho2.lower (by first | exact Nat.le_refl _ | simp)); have HG2 : Hid (w3.grownBy w2 none) := Lib.hid (grownN_trans (by first | exact HD.out | exact grown_drew (World.grownBy_alloc _ _ none) | exact grown_drew (grownN_trans (World.grownBy_alloc _ _ none) (World.grownBy_alloc _ _ none)) | exact HG2.out | exact grownN_trans HG2.out (World.grownBy_alloc _ _ none) | exact HG4.out) hgr2); clear ho2) | (refine stepG_append (e := enc4) _ (by rfl) _ _ _ (by rfl) w3.heap.size 64 i0 (.agg #[.int .i64 0, .int .i64 0, .int .i64 0, .int .i64 0]) 32 Tryd.underlying25 hi hz0 hz1 hz2 (by rfl) _ L (by rfl) (by first | exact HO2.out | exact HO2.out.grown (World.grownBy_alloc _ _ _)) _ [(⟨d, c, f, s⟩ : I4)] (by rfl) (by first | exact seesG_one (e := enc4) (E := 64) _ (⟨d, c, f, s⟩ : I4) #[.int .i64 d, .int .i64 c, .int .i64 f, .int .i64 s] rfl HXO.out | exact (seesG_one (e := enc4) (E := 64) w3 (⟨d, c, f, s⟩ : I4) #[.int .i64 d, .int .i64 c, .int .i64 f, .int .i64 s] rfl HXO.out).grown (grownN_trans (grown_drew (World.grownBy.refl _ none)) hgr2)) (by unfold maxLen; simp; omega) (by simp; omega) w3 (by first | exact HD.out | exact grown_drew (World.grownBy_alloc _ _ none) | exact grown_drew (grownN_trans (World.grownBy_alloc _ _ none) (World.grownBy_alloc _ _ none)) | exact HG2.out | exact grownN_trans HG2.out (World.grownBy_alloc _ _ none) | exact HG4.out) rfl ?_; intro v4 w4 ho4 hgr4 hw4; have HO4 := Lib.hid ho4; have HG4 := Lib.hid hw4; clear ho4 hgr4 hw4))
    all_goals
      have HJ := Lib.hid (iIsJ_any w4 v4 _ HO4.out.sees (HVC.out.grown (grownN_trans HG3.out HG4.out)))
      go_wp2_with fail
      refine HJ.out.mono ?_
      rintro e w5 ⟨rfl, hg⟩
      have HG5 := Lib.hid (grownN_trans (grownN_trans HG3.out HG4.out) hg)
      have HO5 := Lib.hid (HO4.out.grown hg)
      clear hg
      cases hok : isJ (L ++ [(⟨d, c, f, s⟩ : I4)])
      · have HR : Hid (ok L d c f = false ∧ res L d c f = L) := ⟨by rw [HOK.out, hok], by rw [HRES.out, if_neg (by rw [hok]; decide)]⟩
        have HC5 := Lib.hid (HCL.out w5 HG5.out)
        clear hok
        go_wp2_with fail
        refine HC5.out.mono ?_
        rintro e w6 ⟨u6, rfl, ho, hg⟩
        have HO6 := Lib.hid (ho.lower HG5.out.size)
        have HG6 := Lib.hid (grownN_trans HG5.out hg)
        clear ho hg
        go_wp2
        go_ret2
        exact ⟨_, ret_t HR.out.1.symm, by rw [HR.out.2]; exact HO6.out, HG6.out⟩
      · have HR : Hid (ok L d c f = true ∧ res L d c f = L ++ [(⟨d, c, f, s⟩ : I4)]) := ⟨by rw [HOK.out, hok], by rw [HRES.out, if_pos hok]⟩
        clear hok
        go_wp2
        go_ret2
        exact ⟨_, ret_t HR.out.1.symm, by rw [HR.out.2]; exact HO5.out.lower HS3.out, HG5.out⟩
  · have hL0 : L.length = 0 := by omega
    have hltI : ¬ ((0 : Int) < (L.length : Int)) := by omega
    rw [hL0, prev_zero] at hy
    subst hy
    obtain ⟨y0, y1, y2, y3, hY⟩ : ∃ y0 y1 y2 y3, (⟨y0, y1, y2, y3⟩ : I4) = cov := ⟨_, _, _, _, rfl⟩
    have hYe := hY
    unfold cov at hYe
    injection hYe with e0 e1 e2 e3
    subst e0 e1 e2 e3
    rw [← hY] at HX HYO
    clear hY hL0 hlt
    dsimp only at *
    have hsz : ((w.alloc (.cells #[.int .i64 (-1), .int .i64 0, .int .i64 0, .int .i64 0] 64 (0, 0)))).heap.size = w.heap.size + 1 := by simp
    have hgp := World.grownBy_alloc ((w.alloc (.cells #[.int .i64 (-1), .int .i64 0, .int .i64 0, .int .i64 0] 64 (0, 0)))) (.cells #[.int .i64 d, .int .i64 c, .int .i64 f, .int .i64 0] 64 (0, 0)) (none : Option Nat)
    have hbp := box_new ((w.alloc (.cells #[.int .i64 (-1), .int .i64 0, .int .i64 0, .int .i64 0] 64 (0, 0)))) #[.int .i64 d, .int .i64 c, .int .i64 f, .int .i64 0] 64
    rw [hsz] at hbp
    obtain ⟨k0, k1, k2, k3⟩ := four (HB1.out.grown hgp)
    obtain ⟨m0, m1, m2, m3⟩ := four hbp
    have HP := Lib.hid hbp
    have HGP := Lib.hid (grownN_trans HG1.out hgp)
    have HPS : Hid (w.heap.size ≤ w.heap.size + 1) := Nat.le_succ _
    have hsl := iSeal_any (((w.alloc (.cells #[.int .i64 (-1), .int .i64 0, .int .i64 0, .int .i64 0] 64 (0, 0)))).alloc (.cells #[.int .i64 d, .int .i64 c, .int .i64 f, .int .i64 0] 64 (0, 0))) ⟨d, c, f, 0⟩ ⟨(-1), 0, 0, 0⟩ HPO.out HYO.out
    obtain ⟨s, hs⟩ : ∃ s, s = sealT 0 ⟨d, c, f, 0⟩ := ⟨_, rfl⟩
    have HSQ : Hid (s = sealT 0 ⟨d, c, f, 0⟩) := hs
    have HXC : Hid (x = ⟨d, c, f, s⟩) := by show _ = _; rw [hs]; exact HX.out
    have HXV := HXC.out
    subst HXV
    have HSL := Lib.hid hsl
    clear hs hsz hgp hbp hsl
    go_enter Tryd.func21, Tryd.ntmps21
    go_wp2_with fail
    try simp only [World.size_alloc, World.size_setCell, Nat.add_assoc]
    refine HSL.out.mono ?_
    rintro e w2 ⟨rfl, hg⟩
    rw [← HSQ.out]
    have hb3 := HP.out.grown hg
    have hf := hb3.free 3
    have h3c := hb3.cell 3
    have HB3 := Lib.hid (four_set3 (v := .int .i64 s) hb3)
    have HG3 := Lib.hid (grown_new (grownN_trans HGP.out hg) (grown_set w2 (w.heap.size + 1) 3 (.int .i64 s)) (fun c h => by injection h with h; have := HPS.out; omega))
    clear hb3 hg
    go_wp2_with fail
    generalize w2.setCell ⟨(w.heap.size + 1), 3, none⟩ (.int .i64 s) = w3 at *
    have HD := Lib.hid (grown_drew (World.grownBy.refl w3 none))
    have HDW := Lib.hid HG3.out
    have HPG : Hid (∀ W, w3.grownBy W none → W.cell? ⟨(w.heap.size + 1), 0, none⟩ = some (.int .i64 d) ∧ W.cell? ⟨(w.heap.size + 1), 1, none⟩ = some (.int .i64 c) ∧ W.cell? ⟨(w.heap.size + 1), 2, none⟩ = some (.int .i64 f) ∧ W.cell? ⟨(w.heap.size + 1), 3, none⟩ = some (.int .i64 s)) := fun W hg => four (HB3.out.grown hg)
    have HVS := Lib.hid (fun W hg => HVS.out W (grownN_trans HG3.out hg))
    have HRM := Lib.hid (fun W hg => HRM.out W (grownN_trans HG3.out hg))
    have HS3 : Hid (w.heap.size ≤ w3.heap.size) := HG3.out.size
    go_region_held_law (fun w' => w'.cell? ⟨(w.heap.size + 1), 0, none⟩ = some (.int .i64 d) ∧ w'.cell? ⟨(w.heap.size + 1), 1, none⟩ = some (.int .i64 c) ∧ w'.cell? ⟨(w.heap.size + 1), 2, none⟩ = some (.int .i64 f) ∧ w'.cell? ⟨(w.heap.size + 1), 3, none⟩ = some (.int .i64 s)) (first | exact HPG.out _ (HD.out) | exact HPG.out _ (grown_drew (World.grownBy_alloc _ _ none)) | exact HPG.out _ (grown_drew (grownN_trans (World.grownBy_alloc _ _ none) (World.grownBy_alloc _ _ none))) | exact HPG.out _ (HG2.out) | exact HPG.out _ (grownN_trans HG2.out (World.grownBy_alloc _ _ none)) | exact HPG.out _ (HG4.out)) (first | (go_at_call 60; refine (HRM.out _ (by first | exact HD.out | exact grown_drew (World.grownBy_alloc _ _ none) | exact grown_drew (grownN_trans (World.grownBy_alloc _ _ none) (World.grownBy_alloc _ _ none)) | exact HG2.out | exact grownN_trans HG2.out (World.grownBy_alloc _ _ none) | exact HG4.out)).mono ?_; rintro e w2 ⟨v2, rfl, ho2, hgr2⟩; have HO2 : Hid (OwnG enc4 64 w2 w3.heap.size v2 L) := Lib.hid (ho2.lower (by first | exact Nat.le_refl _ | simp)); have HG2 : Hid (w3.grownBy w2 none) := Lib.hid (grownN_trans (by first | exact HD.out | exact grown_drew (World.grownBy_alloc _ _ none) | exact grown_drew (grownN_trans (World.grownBy_alloc _ _ none) (World.grownBy_alloc _ _ none)) | exact HG2.out | exact grownN_trans HG2.out (World.grownBy_alloc _ _ none) | exact HG4.out) hgr2); clear ho2) | (refine stepG_append (e := enc4) _ (by rfl) _ _ _ (by rfl) w3.heap.size 64 i0 (.agg #[.int .i64 0, .int .i64 0, .int .i64 0, .int .i64 0]) 32 Tryd.underlying25 hi hz0 hz1 hz2 (by rfl) _ L (by rfl) (by first | exact HO2.out | exact HO2.out.grown (World.grownBy_alloc _ _ _)) _ [(⟨d, c, f, s⟩ : I4)] (by rfl) (by first | exact seesG_one (e := enc4) (E := 64) _ (⟨d, c, f, s⟩ : I4) #[.int .i64 d, .int .i64 c, .int .i64 f, .int .i64 s] rfl HXO.out | exact (seesG_one (e := enc4) (E := 64) w3 (⟨d, c, f, s⟩ : I4) #[.int .i64 d, .int .i64 c, .int .i64 f, .int .i64 s] rfl HXO.out).grown (grownN_trans (grown_drew (World.grownBy.refl _ none)) hgr2)) (by unfold maxLen; simp; omega) (by simp; omega) w3 (by first | exact HD.out | exact grown_drew (World.grownBy_alloc _ _ none) | exact grown_drew (grownN_trans (World.grownBy_alloc _ _ none) (World.grownBy_alloc _ _ none)) | exact HG2.out | exact grownN_trans HG2.out (World.grownBy_alloc _ _ none) | exact HG4.out) rfl ?_; intro v4 w4 ho4 hgr4 hw4; have HO4 := Lib.hid ho4; have HG4 := Lib.hid hw4; clear ho4 hgr4 hw4))
    all_goals
      have HJ := Lib.hid (iIsJ_any w4 v4 _ HO4.out.sees (HVC.out.grown (grownN_trans HG3.out HG4.out)))
      go_wp2_with fail
      refine HJ.out.mono ?_
      rintro e w5 ⟨rfl, hg⟩
      have HG5 := Lib.hid (grownN_trans (grownN_trans HG3.out HG4.out) hg)
      have HO5 := Lib.hid (HO4.out.grown hg)
      clear hg
      cases hok : isJ (L ++ [(⟨d, c, f, s⟩ : I4)])
      · have HR : Hid (ok L d c f = false ∧ res L d c f = L) := ⟨by rw [HOK.out, hok], by rw [HRES.out, if_neg (by rw [hok]; decide)]⟩
        have HC5 := Lib.hid (HCL.out w5 HG5.out)
        clear hok
        go_wp2_with fail
        refine HC5.out.mono ?_
        rintro e w6 ⟨u6, rfl, ho, hg⟩
        have HO6 := Lib.hid (ho.lower HG5.out.size)
        have HG6 := Lib.hid (grownN_trans HG5.out hg)
        clear ho hg
        go_wp2
        go_ret2
        exact ⟨_, ret_t HR.out.1.symm, by rw [HR.out.2]; exact HO6.out, HG6.out⟩
      · have HR : Hid (ok L d c f = true ∧ res L d c f = L ++ [(⟨d, c, f, s⟩ : I4)]) := ⟨by rw [HOK.out, hok], by rw [HRES.out, if_pos hok]⟩
        clear hok
        go_wp2
        go_ret2
        exact ⟨_, ret_t HR.out.1.symm, by rw [HR.out.2]; exact HO5.out.lower HS3.out, HG5.out⟩
end Go.Proofs.YtlhbnkjijggfaaaDoor.Wrp

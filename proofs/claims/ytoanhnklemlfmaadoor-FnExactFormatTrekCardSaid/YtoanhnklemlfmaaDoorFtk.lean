/- The text of an expedition's numbers, of the program and of its model. -/
import Derived.Test.YtoanhnklemlfmaaDoorLsm
import Derived.Test.YtoanhnklemlfmaaDoorG33
namespace Go.Proofs.YtoanhnklemlfmaaDoor.Ftk
open Go.RowKit Kit Rw Rg Ld Txt Ctx Pen Lst Lsm

theorem info_int : (Tryd.prog.info? 3).map (fun i => (i.zero, i.size, i.bytes)) = some (some (.int .i64 0), 1, 8) := by kernel_rfl
/-- Numbers that have just been written out. -/
theorem seesI_lit (w : World) (L : List Int) (cs : Array Value) (T : TypeId) (hcs : cs.toList = L.map (Value.int .i64)) (hl : L.length ≤ 100) (hw : ∀ n ∈ L, (Lit.int .i64 n).wf = true) : Sees .i64 (w.alloc (.cells cs T (0, 0))) (.slice (some ⟨w.heap.size, 0, none⟩) L.length L.length) L := by
  refine ⟨_, L.length, rfl, Nat.le_refl _, by unfold maxLen; omega, (fun h => by cases h), hw, .inr ⟨_, _, rfl, fun j hj => ?_⟩⟩
  rw [World.cell?_alloc_new, Nat.zero_add, ← Array.getElem?_toList, hcs, List.getElem?_map, List.getElem?_eq_getElem hj]
  simp [hj]
def nums (D : List (Int × Int)) (f dy gv ea : Int) (jn : Nat) : List Int := [dy, gv, ea, f, Dep.tot D D.length, jn]
structure Ok (f dy gv ea : Int) : Prop where
  f : (Lit.int .i64 f).wf = true
  d : (Lit.int .i64 dy).wf = true
  g : (Lit.int .i64 gv).wf = true
  e : (Lit.int .i64 ea).wf = true
theorem nums_wf {D : List (Int × Int)} {f dy gv ea : Int} {jn : Nat} (h : Ok f dy gv ea) (hd : D.length ≤ 2000000) (hj : jn ≤ 2000000) : ∀ x ∈ nums D f dy gv ea jn, (Lit.int .i64 x).wf = true := by
  have hb := Dep.tot_b (L := D) D.length (Nat.le_refl _)
  intro x hx
  simp only [nums, List.mem_cons, List.not_mem_nil, or_false] at hx
  rcases hx with rfl | rfl | rfl | rfl | rfl | rfl
  · exact h.d
  · exact h.g
  · exact h.e
  · exact h.f
  · exact i64_mk (by omega)
  · exact i64_mk (by omega)

theorem ftype {w : World} {base k : Nat} {v : Value} {L : List Int} {cs : Array Value} (h : Own .i64 3 w base v L) (hb : Box w k cs 119) (e : v.ownBlock = some k) : False := by
  rcases h.1.2 with ⟨rfl, _⟩ | ⟨g, cap, cur, rfl, _, hg, _⟩
  · cases e
  · have e' : g = k := Option.some.inj e
    subst e'
    have hh := hg.symm.trans hb
    injection hh with hh
    injection hh with h1 h2 h3
    exact absurd h2 (by decide)

set_option maxRecDepth 20000 in
theorem m_day (w : World) (W H b m rn n f dy gv ea : Int) (xv dv cv pv jv : Value) :
    Calls Tryd.prog 90 #[.agg #[.int .i64 W, .int .i64 H, xv, .int .i64 b, .int .i64 m, .int .i64 rn, dv, .int .i64 n, .int .i64 f, cv, pv, jv, .int .i64 dy, .int .i64 gv, .int .i64 ea]] w fun e w' => e = .returned (.int .i64 dy) ∧ w.grownBy w' none := by
  have HG := Lib.hid (World.grownBy_alloc w (.cells #[.int .i64 W, .int .i64 H, xv, .int .i64 b, .int .i64 m, .int .i64 rn, dv, .int .i64 n, .int .i64 f, cv, pv, jv, .int .i64 dy, .int .i64 gv, .int .i64 ea] 73 (0, 0)) none)
  have c := (box_new w #[.int .i64 W, .int .i64 H, xv, .int .i64 b, .int .i64 m, .int .i64 rn, dv, .int .i64 n, .int .i64 f, cv, pv, jv, .int .i64 dy, .int .i64 gv, .int .i64 ea] 73).cell 12
  simp only [List.getElem?_toArray, List.getElem?_cons_succ, List.getElem?_cons_zero] at c
  go_enter Tryd.func90, Tryd.ntmps90
  go_wp2
  go_ret
  exact ⟨rfl, HG.out⟩

set_option maxRecDepth 20000 in
theorem m_given (w : World) (W H b m rn n f dy gv ea : Int) (xv dv cv pv jv : Value) :
    Calls Tryd.prog 91 #[.agg #[.int .i64 W, .int .i64 H, xv, .int .i64 b, .int .i64 m, .int .i64 rn, dv, .int .i64 n, .int .i64 f, cv, pv, jv, .int .i64 dy, .int .i64 gv, .int .i64 ea]] w fun e w' => e = .returned (.int .i64 gv) ∧ w.grownBy w' none := by
  have HG := Lib.hid (World.grownBy_alloc w (.cells #[.int .i64 W, .int .i64 H, xv, .int .i64 b, .int .i64 m, .int .i64 rn, dv, .int .i64 n, .int .i64 f, cv, pv, jv, .int .i64 dy, .int .i64 gv, .int .i64 ea] 73 (0, 0)) none)
  have c := (box_new w #[.int .i64 W, .int .i64 H, xv, .int .i64 b, .int .i64 m, .int .i64 rn, dv, .int .i64 n, .int .i64 f, cv, pv, jv, .int .i64 dy, .int .i64 gv, .int .i64 ea] 73).cell 13
  simp only [List.getElem?_toArray, List.getElem?_cons_succ, List.getElem?_cons_zero] at c
  go_enter Tryd.func91, Tryd.ntmps91
  go_wp2
  go_ret
  exact ⟨rfl, HG.out⟩

set_option maxRecDepth 20000 in
theorem m_eaten (w : World) (W H b m rn n f dy gv ea : Int) (xv dv cv pv jv : Value) :
    Calls Tryd.prog 92 #[.agg #[.int .i64 W, .int .i64 H, xv, .int .i64 b, .int .i64 m, .int .i64 rn, dv, .int .i64 n, .int .i64 f, cv, pv, jv, .int .i64 dy, .int .i64 gv, .int .i64 ea]] w fun e w' => e = .returned (.int .i64 ea) ∧ w.grownBy w' none := by
  have HG := Lib.hid (World.grownBy_alloc w (.cells #[.int .i64 W, .int .i64 H, xv, .int .i64 b, .int .i64 m, .int .i64 rn, dv, .int .i64 n, .int .i64 f, cv, pv, jv, .int .i64 dy, .int .i64 gv, .int .i64 ea] 73 (0, 0)) none)
  have c := (box_new w #[.int .i64 W, .int .i64 H, xv, .int .i64 b, .int .i64 m, .int .i64 rn, dv, .int .i64 n, .int .i64 f, cv, pv, jv, .int .i64 dy, .int .i64 gv, .int .i64 ea] 73).cell 14
  simp only [List.getElem?_toArray, List.getElem?_cons_succ, List.getElem?_cons_zero] at c
  go_enter Tryd.func92, Tryd.ntmps92
  go_wp2
  go_ret
  exact ⟨rfl, HG.out⟩

set_option maxRecDepth 20000 in
theorem m_carried (w : World) (W H b m rn n f dy gv ea : Int) (xv dv cv pv jv : Value) :
    Calls Tryd.prog 93 #[.agg #[.int .i64 W, .int .i64 H, xv, .int .i64 b, .int .i64 m, .int .i64 rn, dv, .int .i64 n, .int .i64 f, cv, pv, jv, .int .i64 dy, .int .i64 gv, .int .i64 ea]] w fun e w' => e = .returned (.int .i64 f) ∧ w.grownBy w' none := by
  have HG := Lib.hid (World.grownBy_alloc w (.cells #[.int .i64 W, .int .i64 H, xv, .int .i64 b, .int .i64 m, .int .i64 rn, dv, .int .i64 n, .int .i64 f, cv, pv, jv, .int .i64 dy, .int .i64 gv, .int .i64 ea] 73 (0, 0)) none)
  have c := (box_new w #[.int .i64 W, .int .i64 H, xv, .int .i64 b, .int .i64 m, .int .i64 rn, dv, .int .i64 n, .int .i64 f, cv, pv, jv, .int .i64 dy, .int .i64 gv, .int .i64 ea] 73).cell 8
  simp only [List.getElem?_toArray, List.getElem?_cons_succ, List.getElem?_cons_zero] at c
  go_enter Tryd.func93, Tryd.ntmps93
  go_wp2
  go_ret
  exact ⟨rfl, HG.out⟩

set_option maxRecDepth 20000 in
theorem m_pages (w : World) (W H b m rn n f dy gv ea : Int) (xv dv cv pv : Value) (ja : Option Addr) (jn jc : Nat) :
    Calls Tryd.prog 95 #[.agg #[.int .i64 W, .int .i64 H, xv, .int .i64 b, .int .i64 m, .int .i64 rn, dv, .int .i64 n, .int .i64 f, cv, pv, .slice ja jn jc, .int .i64 dy, .int .i64 gv, .int .i64 ea]] w fun e w' => e = .returned (.int .i64 jn) ∧ w.grownBy w' none := by
  have HG := Lib.hid (World.grownBy_alloc w (.cells #[.int .i64 W, .int .i64 H, xv, .int .i64 b, .int .i64 m, .int .i64 rn, dv, .int .i64 n, .int .i64 f, cv, pv, .slice ja jn jc, .int .i64 dy, .int .i64 gv, .int .i64 ea] 73 (0, 0)) none)
  have c := (box_new w #[.int .i64 W, .int .i64 H, xv, .int .i64 b, .int .i64 m, .int .i64 rn, dv, .int .i64 n, .int .i64 f, cv, pv, .slice ja jn jc, .int .i64 dy, .int .i64 gv, .int .i64 ea] 73).cell 11
  simp only [List.getElem?_toArray, List.getElem?_cons_succ, List.getElem?_cons_zero] at c
  go_enter Tryd.func95, Tryd.ntmps95
  go_wp2
  go_ret
  exact ⟨rfl, HG.out⟩

set_option maxRecDepth 20000 in
theorem m_laid (w : World) (W H b m rn n f dy gv ea : Int) (xv cv pv jv : Value) (da : Option Addr) (dn dc : Nat) (D : List (Int × Int)) (hD : SeesG encP w (.slice da dn dc) D) (hd : D.length ≤ 2000000) :
    Calls Tryd.prog 94 #[.agg #[.int .i64 W, .int .i64 H, xv, .int .i64 b, .int .i64 m, .int .i64 rn, .slice da dn dc, .int .i64 n, .int .i64 f, cv, pv, jv, .int .i64 dy, .int .i64 gv, .int .i64 ea]] w fun e w' => e = .returned (.int .i64 (Dep.tot D D.length)) ∧ w.grownBy w' none := by
  have hg := World.grownBy_alloc w (.cells #[.int .i64 W, .int .i64 H, xv, .int .i64 b, .int .i64 m, .int .i64 rn, .slice da dn dc, .int .i64 n, .int .i64 f, cv, pv, jv, .int .i64 dy, .int .i64 gv, .int .i64 ea] 73 (0, 0)) none
  have HG := Lib.hid hg
  have HC := Lib.hid (DepI.iTotal_any _ _ D (hD.grown hg) (by omega))
  have c := (box_new w #[.int .i64 W, .int .i64 H, xv, .int .i64 b, .int .i64 m, .int .i64 rn, .slice da dn dc, .int .i64 n, .int .i64 f, cv, pv, jv, .int .i64 dy, .int .i64 gv, .int .i64 ea] 73).cell 6
  simp only [List.getElem?_toArray, List.getElem?_cons_succ, List.getElem?_cons_zero] at c
  clear hg hD hd
  go_enter Tryd.func94, Tryd.ntmps94
  go_wp2_with fail
  refine HC.out.mono ?_
  rintro e w2 ⟨rfl, hg⟩
  have HG2 := Lib.hid (grownN_trans HG.out hg)
  clear hg
  go_wp2
  go_ret
  exact ⟨rfl, HG2.out⟩

set_option maxRecDepth 100000 in
set_option maxHeartbeats 4000000 in
theorem sTrek_any (w : World) (W H b m rn n f dy gv ea : Int) (xv dv cv pv jv : Value) (D : List (Int × Int)) (J : List I4) (hD : SeesG encP w dv D) (hJ : SeesG enc4 w jv J) (hok : Ok f dy gv ea) (hd : D.length ≤ 2000000) (hj : J.length ≤ 2000000) :
    Calls Tryd.prog 45 #[.agg #[.int .i64 W, .int .i64 H, xv, .int .i64 b, .int .i64 m, .int .i64 rn, dv, .int .i64 n, .int .i64 f, cv, pv, jv, .int .i64 dy, .int .i64 gv, .int .i64 ea]] w fun e w' => e = .returned (.string (l39 ((nums D f dy gv ea J.length).map num))) ∧ w.grownBy w' none := by
  obtain ⟨da, dn, dc, rfl, HDN⟩ := hD.shape
  obtain ⟨ja, jn, jc, rfl, HJN⟩ := hJ.shape
  rw [HJN.out] at hj ⊢
  have hg := World.grownBy_alloc w (.cells #[.int .i64 W, .int .i64 H, xv, .int .i64 b, .int .i64 m, .int .i64 rn, .slice da dn dc, .int .i64 n, .int .i64 f, cv, pv, .slice ja jn jc, .int .i64 dy, .int .i64 gv, .int .i64 ea] 73 (0, 0)) none
  have HG := Lib.hid hg
  have HB := Lib.hid (box_new w #[.int .i64 W, .int .i64 H, xv, .int .i64 b, .int .i64 m, .int .i64 rn, .slice da dn dc, .int .i64 n, .int .i64 f, cv, pv, .slice ja jn jc, .int .i64 dy, .int .i64 gv, .int .i64 ea] 73)
  have HDV := Lib.hid (hD.grown hg)
  have HWF := Lib.hid (nums_wf hok hd hj)
  have hct := fun W' hx => DepI.sTotal_any W' (.slice da dn dc) D hx (by omega)
  unfold nums at HWF ⊢
  obtain ⟨T, hT⟩ : ∃ T, T = Dep.tot D D.length := ⟨_, rfl⟩
  rw [← hT] at HWF hct ⊢
  have HCT := Lib.hid hct
  clear hg hD hJ hok hd hj hT hct
  go_enter Tryd.func45, Tryd.ntmps45
  go_wp2_with fail
  generalize w.alloc (.cells #[.int .i64 W, .int .i64 H, xv, .int .i64 b, .int .i64 m, .int .i64 rn, .slice da dn dc, .int .i64 n, .int .i64 f, cv, pv, .slice ja jn jc, .int .i64 dy, .int .i64 gv, .int .i64 ea] 73 (0, 0)) = W1 at *
  have HD : Hid (∀ W', W1.grownBy W' none → W'.cell? ⟨w.heap.size, 12, none⟩ = some (.int .i64 dy) ∧ W'.cell? ⟨w.heap.size, 13, none⟩ = some (.int .i64 gv) ∧ W'.cell? ⟨w.heap.size, 14, none⟩ = some (.int .i64 ea) ∧ W'.cell? ⟨w.heap.size, 8, none⟩ = some (.int .i64 f) ∧ W'.cell? ⟨w.heap.size, 6, none⟩ = some (.slice da dn dc) ∧ W'.cell? ⟨w.heap.size, 11, none⟩ = some (.slice ja jn jc)) := fun W' hgg => by
    have hb := HB.out.grown hgg
    exact ⟨hb.cell 12, hb.cell 13, hb.cell 14, hb.cell 8, hb.cell 6, hb.cell 11⟩
  have HQ0 := Lib.hid (grown_drew (World.grownBy.refl W1 none))
  go_region_held_law (fun w' => w'.cell? ⟨w.heap.size, 12, none⟩ = some (.int .i64 dy) ∧ w'.cell? ⟨w.heap.size, 13, none⟩ = some (.int .i64 gv) ∧ w'.cell? ⟨w.heap.size, 14, none⟩ = some (.int .i64 ea) ∧ w'.cell? ⟨w.heap.size, 8, none⟩ = some (.int .i64 f) ∧ w'.cell? ⟨w.heap.size, 6, none⟩ = some (.slice da dn dc) ∧ w'.cell? ⟨w.heap.size, 11, none⟩ = some (.slice ja jn jc)) (first | exact HD.out _ HQ0.out | exact HD.out _ HQ1.out | exact HD.out _ (grownN_trans HQ1.out (World.grownBy_alloc _ _ none)) | exact HD.out _ HQ2.out) (first
    | (have hzz := HQ1.out; clear hzz; go_at_call 30; refine (sNumbers_any _ _ [dy, gv, ea, f, T, (jn : Int)] (seesI_lit _ _ _ _ rfl (Nat.le_of_ble_eq_true rfl) HWF.out) (Nat.le_of_ble_eq_true rfl)).mono ?_; rintro e wB ⟨rfl, hgB⟩; have HQ2 := Lib.hid (grownN_trans (grownN_trans HQ1.out (World.grownBy_alloc _ _ none)) hgB); clear hgB)
    | (go_at_call 88; refine (HCT.out _ (HDV.out.grown HQ0.out)).mono ?_; rintro e wA ⟨rfl, hgA⟩; have HQ1 := Lib.hid (grownN_trans HQ0.out hgA); clear hgA))
  all_goals
    go_wp2
    go_ret
    exact ⟨rfl, grownN_trans HG.out HQ2.out⟩

set_option maxRecDepth 100000 in
set_option maxHeartbeats 8000000 in
theorem iTrek_any (w : World) (W H b m rn n f dy gv ea : Int) (xv dv cv pv jv : Value) (D : List (Int × Int)) (J : List I4) (hD : SeesG encP w dv D) (hJ : SeesG enc4 w jv J) (hok : Ok f dy gv ea) (hd : D.length ≤ 2000000) (hj : J.length ≤ 2000000) (htab : Fmt.Pow10 w) :
    Calls Tryd.prog 47 #[.agg #[.int .i64 W, .int .i64 H, xv, .int .i64 b, .int .i64 m, .int .i64 rn, dv, .int .i64 n, .int .i64 f, cv, pv, jv, .int .i64 dy, .int .i64 gv, .int .i64 ea]] w fun e w' => e = .returned (.string (l39 ((nums D f dy gv ea J.length).map num))) ∧ w.grownBy w' none := by
  obtain ⟨i0, hi, hz0, hz1, hz2⟩ := info_parts info_int
  obtain ⟨da, dn, dc, rfl, HDN⟩ := hD.shape
  obtain ⟨ja, jn, jc, rfl, HJN⟩ := hJ.shape
  rw [HJN.out] at hj ⊢
  have hg := World.grownBy_alloc w (.cells #[.int .i64 W, .int .i64 H, xv, .int .i64 b, .int .i64 m, .int .i64 rn, .slice da dn dc, .int .i64 n, .int .i64 f, cv, pv, .slice ja jn jc, .int .i64 dy, .int .i64 gv, .int .i64 ea] 73 (0, 0)) none
  have HB := Lib.hid (box_new w #[.int .i64 W, .int .i64 H, xv, .int .i64 b, .int .i64 m, .int .i64 rn, .slice da dn dc, .int .i64 n, .int .i64 f, cv, pv, .slice ja jn jc, .int .i64 dy, .int .i64 gv, .int .i64 ea] 73)
  have HS1 : Hid ((w.alloc (.cells #[.int .i64 W, .int .i64 H, xv, .int .i64 b, .int .i64 m, .int .i64 rn, .slice da dn dc, .int .i64 n, .int .i64 f, cv, pv, .slice ja jn jc, .int .i64 dy, .int .i64 gv, .int .i64 ea] 73 (0, 0))).heap.size = w.heap.size + 1) := World.size_alloc _ _
  have hoe := own_empty (k := .i64) (E := 3) (w.alloc (.cells #[.int .i64 W, .int .i64 H, xv, .int .i64 b, .int .i64 m, .int .i64 rn, .slice da dn dc, .int .i64 n, .int .i64 f, cv, pv, .slice ja jn jc, .int .i64 dy, .int .i64 gv, .int .i64 ea] 73 (0, 0)))
  have hge := World.grownBy_alloc (w.alloc (.cells #[.int .i64 W, .int .i64 H, xv, .int .i64 b, .int .i64 m, .int .i64 rn, .slice da dn dc, .int .i64 n, .int .i64 f, cv, pv, .slice ja jn jc, .int .i64 dy, .int .i64 gv, .int .i64 ea] 73 (0, 0))) (.cells #[] 3 (0, 0)) none
  have hgf := World.grownBy_alloc ((w.alloc (.cells #[.int .i64 W, .int .i64 H, xv, .int .i64 b, .int .i64 m, .int .i64 rn, .slice da dn dc, .int .i64 n, .int .i64 f, cv, pv, .slice ja jn jc, .int .i64 dy, .int .i64 gv, .int .i64 ea] 73 (0, 0))).alloc (.cells #[] 3 (0, 0))) (.cells #[.func (.func 90) #[] #[], .func (.func 91) #[] #[], .func (.func 92) #[] #[], .func (.func 93) #[] #[], .func (.func 94) #[] #[], .func (.func 95) #[] #[]] 119 (0, 0)) none
  have hbf := box_new ((w.alloc (.cells #[.int .i64 W, .int .i64 H, xv, .int .i64 b, .int .i64 m, .int .i64 rn, .slice da dn dc, .int .i64 n, .int .i64 f, cv, pv, .slice ja jn jc, .int .i64 dy, .int .i64 gv, .int .i64 ea] 73 (0, 0))).alloc (.cells #[] 3 (0, 0))) #[.func (.func 90) #[] #[], .func (.func 91) #[] #[], .func (.func 92) #[] #[], .func (.func 93) #[] #[], .func (.func 94) #[] #[], .func (.func 95) #[] #[]] 119
  simp only [World.size_alloc] at hbf hoe
  have HDV := Lib.hid (hD.grown hg)
  have HTB := Lib.hid (pow_grown htab hg)
  have HWF := Lib.hid (nums_wf hok hd hj)
  have hct := fun W' hx => m_laid W' W H b m rn n f dy gv ea xv cv pv (.slice ja jn jc) da dn dc D hx hd
  have HOK := Lib.hid hok
  have hbT := Dep.tot_b (L := D) D.length (Nat.le_refl _)
  unfold nums at HWF ⊢
  obtain ⟨T, hT⟩ : ∃ T, T = Dep.tot D D.length := ⟨_, rfl⟩
  rw [← hT] at HWF hct hbT ⊢
  have HCT := Lib.hid hct
  have HTW : Hid ((Lit.int .i64 T).wf = true) := i64_mk (by omega)
  have HJW : Hid ((Lit.int .i64 (jn : Int)).wf = true) := i64_mk (by omega)
  have HO := Lib.hid (hoe.grown hgf)
  have HBF := Lib.hid hbf
  have HGF := Lib.hid (grownN_trans hge hgf)
  have HG1 := Lib.hid hg
  clear hg hD hJ hok hd hj hT hct htab hoe hge hgf hbf hbT
  go_enter Tryd.func47, Tryd.ntmps47
  go_wp2
  generalize w.alloc (.cells #[.int .i64 W, .int .i64 H, xv, .int .i64 b, .int .i64 m, .int .i64 rn, .slice da dn dc, .int .i64 n, .int .i64 f, cv, pv, .slice ja jn jc, .int .i64 dy, .int .i64 gv, .int .i64 ea] 73 (0, 0)) = W1 at *
  generalize (W1.alloc (.cells #[] 3 (0, 0))).alloc (.cells #[.func (.func 90) #[] #[], .func (.func 91) #[] #[], .func (.func 92) #[] #[], .func (.func 93) #[] #[], .func (.func 94) #[] #[], .func (.func 95) #[] #[]] 119 (0, 0)) = V0 at *
  refine wp_loop_rounds 7 ?_
  rw [rounds_succ]
  have HB0 := Lib.hid (HB.out.grown HGF.out)
  have HG0 := HGF
  have HF0 := HBF
  have HO0 := HO
  have HLL : Hid (([] : List Int).length ≤ 100) := by show 0 ≤ 100; omega
  have q0 := HF0.out.cell 0
  have c0 := HB0.out.cell 0
  have c1 := HB0.out.cell 1
  have c2 := HB0.out.cell 2
  have c3 := HB0.out.cell 3
  have c4 := HB0.out.cell 4
  have c5 := HB0.out.cell 5
  have c6 := HB0.out.cell 6
  have c7 := HB0.out.cell 7
  have c8 := HB0.out.cell 8
  have c9 := HB0.out.cell 9
  have c10 := HB0.out.cell 10
  have c11 := HB0.out.cell 11
  have c12 := HB0.out.cell 12
  have c13 := HB0.out.cell 13
  have c14 := HB0.out.cell 14
  simp only [List.getElem?_toArray, List.getElem?_cons_succ, List.getElem?_cons_zero] at q0 c0 c1 c2 c3 c4 c5 c6 c7 c8 c9 c10 c11 c12 c13 c14
  go_wp2_with fail
  refine (m_day _ W H b m rn n f dy gv ea xv (.slice da dn dc) cv pv (.slice ja jn jc)).mono ?_
  rintro e x0 ⟨rfl, hg⟩
  have HBx := Lib.hid (HB0.out.grown hg)
  have HFx := Lib.hid (HF0.out.grown hg)
  have HOx := Lib.hid (HO0.out.grown hg)
  have HGx := Lib.hid (grownN_trans HG0.out hg)
  clear hg q0 c0 c1 c2 c3 c4 c5 c6 c7 c8 c9 c10 c11 c12 c13 c14 HB0 HF0 HO0 HG0
  go_wp2_with (at_builtin; go_loud (refine wpList_append_one _ rfl _ _ 22 rfl (w.heap.size + 1) 3 i0 (.int .i64 0) 8 Tryd.underlying22 hi hz0 hz1 hz2 rfl .i64 _ ([] : List Int) rfl HOx.out dy rfl HOK.out.d (by simp) (by decide) HBx.out.lt ?_); intro v1 y1 hown hgrow; have HO1 : Hid (Own .i64 3 y1 (w.heap.size + 1) v1 [dy]) := hown; have HB1 := Lib.hid (HBx.out.kept hgrow (HOx.out.off (Nat.lt_succ_self _))); have HF1 := Lib.hid (HFx.out.kept hgrow (fun e => ftype HOx.out HFx.out e)); have HG1 := Lib.hid (grown_new HGx.out hgrow (fun c hc => by have := (HOx.out.lt c hc).1; have := HS1.out; omega)); clear hown hgrow HOx HBx HFx HGx)
  rw [rounds_succ]
  have q0 := HF1.out.cell 1
  have c0 := HB1.out.cell 0
  have c1 := HB1.out.cell 1
  have c2 := HB1.out.cell 2
  have c3 := HB1.out.cell 3
  have c4 := HB1.out.cell 4
  have c5 := HB1.out.cell 5
  have c6 := HB1.out.cell 6
  have c7 := HB1.out.cell 7
  have c8 := HB1.out.cell 8
  have c9 := HB1.out.cell 9
  have c10 := HB1.out.cell 10
  have c11 := HB1.out.cell 11
  have c12 := HB1.out.cell 12
  have c13 := HB1.out.cell 13
  have c14 := HB1.out.cell 14
  simp only [List.getElem?_toArray, List.getElem?_cons_succ, List.getElem?_cons_zero] at q0 c0 c1 c2 c3 c4 c5 c6 c7 c8 c9 c10 c11 c12 c13 c14
  go_wp2_with fail
  refine (m_given _ W H b m rn n f dy gv ea xv (.slice da dn dc) cv pv (.slice ja jn jc)).mono ?_
  rintro e x1 ⟨rfl, hg⟩
  have HBx := Lib.hid (HB1.out.grown hg)
  have HFx := Lib.hid (HF1.out.grown hg)
  have HOx := Lib.hid (HO1.out.grown hg)
  have HGx := Lib.hid (grownN_trans HG1.out hg)
  clear hg q0 c0 c1 c2 c3 c4 c5 c6 c7 c8 c9 c10 c11 c12 c13 c14 HB1 HF1 HO1 HG1
  go_wp2_with (at_builtin; go_loud (refine wpList_append_one _ rfl _ _ 22 rfl (w.heap.size + 1) 3 i0 (.int .i64 0) 8 Tryd.underlying22 hi hz0 hz1 hz2 rfl .i64 _ [dy] rfl HOx.out gv rfl HOK.out.g (by simp) (by decide) HBx.out.lt ?_); intro v2 y2 hown hgrow; have HO2 : Hid (Own .i64 3 y2 (w.heap.size + 1) v2 [dy, gv]) := hown; have HB2 := Lib.hid (HBx.out.kept hgrow (HOx.out.off (Nat.lt_succ_self _))); have HF2 := Lib.hid (HFx.out.kept hgrow (fun e => ftype HOx.out HFx.out e)); have HG2 := Lib.hid (grown_new HGx.out hgrow (fun c hc => by have := (HOx.out.lt c hc).1; have := HS1.out; omega)); clear hown hgrow HOx HBx HFx HGx)
  rw [rounds_succ]
  have q0 := HF2.out.cell 2
  have c0 := HB2.out.cell 0
  have c1 := HB2.out.cell 1
  have c2 := HB2.out.cell 2
  have c3 := HB2.out.cell 3
  have c4 := HB2.out.cell 4
  have c5 := HB2.out.cell 5
  have c6 := HB2.out.cell 6
  have c7 := HB2.out.cell 7
  have c8 := HB2.out.cell 8
  have c9 := HB2.out.cell 9
  have c10 := HB2.out.cell 10
  have c11 := HB2.out.cell 11
  have c12 := HB2.out.cell 12
  have c13 := HB2.out.cell 13
  have c14 := HB2.out.cell 14
  simp only [List.getElem?_toArray, List.getElem?_cons_succ, List.getElem?_cons_zero] at q0 c0 c1 c2 c3 c4 c5 c6 c7 c8 c9 c10 c11 c12 c13 c14
  go_wp2_with fail
  refine (m_eaten _ W H b m rn n f dy gv ea xv (.slice da dn dc) cv pv (.slice ja jn jc)).mono ?_
  rintro e x2 ⟨rfl, hg⟩
  have HBx := Lib.hid (HB2.out.grown hg)
  have HFx := Lib.hid (HF2.out.grown hg)
  have HOx := Lib.hid (HO2.out.grown hg)
  have HGx := Lib.hid (grownN_trans HG2.out hg)
  clear hg q0 c0 c1 c2 c3 c4 c5 c6 c7 c8 c9 c10 c11 c12 c13 c14 HB2 HF2 HO2 HG2
  go_wp2_with (at_builtin; go_loud (refine wpList_append_one _ rfl _ _ 22 rfl (w.heap.size + 1) 3 i0 (.int .i64 0) 8 Tryd.underlying22 hi hz0 hz1 hz2 rfl .i64 _ [dy, gv] rfl HOx.out ea rfl HOK.out.e (by simp) (by decide) HBx.out.lt ?_); intro v3 y3 hown hgrow; have HO3 : Hid (Own .i64 3 y3 (w.heap.size + 1) v3 [dy, gv, ea]) := hown; have HB3 := Lib.hid (HBx.out.kept hgrow (HOx.out.off (Nat.lt_succ_self _))); have HF3 := Lib.hid (HFx.out.kept hgrow (fun e => ftype HOx.out HFx.out e)); have HG3 := Lib.hid (grown_new HGx.out hgrow (fun c hc => by have := (HOx.out.lt c hc).1; have := HS1.out; omega)); clear hown hgrow HOx HBx HFx HGx)
  rw [rounds_succ]
  have q0 := HF3.out.cell 3
  have c0 := HB3.out.cell 0
  have c1 := HB3.out.cell 1
  have c2 := HB3.out.cell 2
  have c3 := HB3.out.cell 3
  have c4 := HB3.out.cell 4
  have c5 := HB3.out.cell 5
  have c6 := HB3.out.cell 6
  have c7 := HB3.out.cell 7
  have c8 := HB3.out.cell 8
  have c9 := HB3.out.cell 9
  have c10 := HB3.out.cell 10
  have c11 := HB3.out.cell 11
  have c12 := HB3.out.cell 12
  have c13 := HB3.out.cell 13
  have c14 := HB3.out.cell 14
  simp only [List.getElem?_toArray, List.getElem?_cons_succ, List.getElem?_cons_zero] at q0 c0 c1 c2 c3 c4 c5 c6 c7 c8 c9 c10 c11 c12 c13 c14
  go_wp2_with fail
  refine (m_carried _ W H b m rn n f dy gv ea xv (.slice da dn dc) cv pv (.slice ja jn jc)).mono ?_
  rintro e x3 ⟨rfl, hg⟩
  have HBx := Lib.hid (HB3.out.grown hg)
  have HFx := Lib.hid (HF3.out.grown hg)
  have HOx := Lib.hid (HO3.out.grown hg)
  have HGx := Lib.hid (grownN_trans HG3.out hg)
  clear hg q0 c0 c1 c2 c3 c4 c5 c6 c7 c8 c9 c10 c11 c12 c13 c14 HB3 HF3 HO3 HG3
  go_wp2_with (at_builtin; go_loud (refine wpList_append_one _ rfl _ _ 22 rfl (w.heap.size + 1) 3 i0 (.int .i64 0) 8 Tryd.underlying22 hi hz0 hz1 hz2 rfl .i64 _ [dy, gv, ea] rfl HOx.out f rfl HOK.out.f (by simp) (by decide) HBx.out.lt ?_); intro v4 y4 hown hgrow; have HO4 : Hid (Own .i64 3 y4 (w.heap.size + 1) v4 [dy, gv, ea, f]) := hown; have HB4 := Lib.hid (HBx.out.kept hgrow (HOx.out.off (Nat.lt_succ_self _))); have HF4 := Lib.hid (HFx.out.kept hgrow (fun e => ftype HOx.out HFx.out e)); have HG4 := Lib.hid (grown_new HGx.out hgrow (fun c hc => by have := (HOx.out.lt c hc).1; have := HS1.out; omega)); clear hown hgrow HOx HBx HFx HGx)
  rw [rounds_succ]
  have q0 := HF4.out.cell 4
  have c0 := HB4.out.cell 0
  have c1 := HB4.out.cell 1
  have c2 := HB4.out.cell 2
  have c3 := HB4.out.cell 3
  have c4 := HB4.out.cell 4
  have c5 := HB4.out.cell 5
  have c6 := HB4.out.cell 6
  have c7 := HB4.out.cell 7
  have c8 := HB4.out.cell 8
  have c9 := HB4.out.cell 9
  have c10 := HB4.out.cell 10
  have c11 := HB4.out.cell 11
  have c12 := HB4.out.cell 12
  have c13 := HB4.out.cell 13
  have c14 := HB4.out.cell 14
  simp only [List.getElem?_toArray, List.getElem?_cons_succ, List.getElem?_cons_zero] at q0 c0 c1 c2 c3 c4 c5 c6 c7 c8 c9 c10 c11 c12 c13 c14
  go_wp2_with fail
  refine (HCT.out _ (HDV.out.grown HG4.out)).mono ?_
  rintro e x4 ⟨rfl, hg⟩
  have HBx := Lib.hid (HB4.out.grown hg)
  have HFx := Lib.hid (HF4.out.grown hg)
  have HOx := Lib.hid (HO4.out.grown hg)
  have HGx := Lib.hid (grownN_trans HG4.out hg)
  clear hg q0 c0 c1 c2 c3 c4 c5 c6 c7 c8 c9 c10 c11 c12 c13 c14 HB4 HF4 HO4 HG4
  go_wp2_with (at_builtin; go_loud (refine wpList_append_one _ rfl _ _ 22 rfl (w.heap.size + 1) 3 i0 (.int .i64 0) 8 Tryd.underlying22 hi hz0 hz1 hz2 rfl .i64 _ [dy, gv, ea, f] rfl HOx.out T rfl HTW.out (by simp) (by decide) HBx.out.lt ?_); intro v5 y5 hown hgrow; have HO5 : Hid (Own .i64 3 y5 (w.heap.size + 1) v5 [dy, gv, ea, f, T]) := hown; have HB5 := Lib.hid (HBx.out.kept hgrow (HOx.out.off (Nat.lt_succ_self _))); have HF5 := Lib.hid (HFx.out.kept hgrow (fun e => ftype HOx.out HFx.out e)); have HG5 := Lib.hid (grown_new HGx.out hgrow (fun c hc => by have := (HOx.out.lt c hc).1; have := HS1.out; omega)); clear hown hgrow HOx HBx HFx HGx)
  rw [rounds_succ]
  have q0 := HF5.out.cell 5
  have c0 := HB5.out.cell 0
  have c1 := HB5.out.cell 1
  have c2 := HB5.out.cell 2
  have c3 := HB5.out.cell 3
  have c4 := HB5.out.cell 4
  have c5 := HB5.out.cell 5
  have c6 := HB5.out.cell 6
  have c7 := HB5.out.cell 7
  have c8 := HB5.out.cell 8
  have c9 := HB5.out.cell 9
  have c10 := HB5.out.cell 10
  have c11 := HB5.out.cell 11
  have c12 := HB5.out.cell 12
  have c13 := HB5.out.cell 13
  have c14 := HB5.out.cell 14
  simp only [List.getElem?_toArray, List.getElem?_cons_succ, List.getElem?_cons_zero] at q0 c0 c1 c2 c3 c4 c5 c6 c7 c8 c9 c10 c11 c12 c13 c14
  go_wp2_with fail
  refine (m_pages _ W H b m rn n f dy gv ea xv (.slice da dn dc) cv pv ja jn jc).mono ?_
  rintro e x5 ⟨rfl, hg⟩
  have HBx := Lib.hid (HB5.out.grown hg)
  have HFx := Lib.hid (HF5.out.grown hg)
  have HOx := Lib.hid (HO5.out.grown hg)
  have HGx := Lib.hid (grownN_trans HG5.out hg)
  clear hg q0 c0 c1 c2 c3 c4 c5 c6 c7 c8 c9 c10 c11 c12 c13 c14 HB5 HF5 HO5 HG5
  go_wp2_with (at_builtin; go_loud (refine wpList_append_one _ rfl _ _ 22 rfl (w.heap.size + 1) 3 i0 (.int .i64 0) 8 Tryd.underlying22 hi hz0 hz1 hz2 rfl .i64 _ [dy, gv, ea, f, T] rfl HOx.out (jn : Int) rfl HJW.out (by simp) (by decide) HBx.out.lt ?_); intro v6 y6 hown hgrow; have HO6 : Hid (Own .i64 3 y6 (w.heap.size + 1) v6 [dy, gv, ea, f, T, (jn : Int)]) := hown; have HB6 := Lib.hid (HBx.out.kept hgrow (HOx.out.off (Nat.lt_succ_self _))); have HF6 := Lib.hid (HFx.out.kept hgrow (fun e => ftype HOx.out HFx.out e)); have HG6 := Lib.hid (grown_new HGx.out hgrow (fun c hc => by have := (HOx.out.lt c hc).1; have := HS1.out; omega)); clear hown hgrow HOx HBx HFx HGx)
  rw [rounds_succ]
  go_wp2_with fail
  refine (iNumbers_any _ _ [dy, gv, ea, f, T, (jn : Int)] HO6.out.sees (Nat.le_of_ble_eq_true rfl) (pow_grown HTB.out HG6.out)).mono ?_
  rintro e wZ ⟨rfl, hg⟩
  have HGZ := Lib.hid (grownN_trans (grownN_trans HG1.out HG6.out) hg)
  clear hg
  go_wp2
  go_ret
  exact ⟨rfl, HGZ.out⟩
end Go.Proofs.YtoanhnklemlfmaaDoor.Ftk

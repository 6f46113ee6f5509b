/- Contracts of whether the journal has the last day, of the program and of its model. -/
import Derived.Test.YtochohoihmfanaaDoorTrekL
import Derived.Test.YtochohoihmfanaaDoorJrS
import Derived.Test.YtochohoihmfanaaDoorJrK
namespace Go.Proofs.YtochohoihmfanaaDoor.Wri
open Go.RowKit Kit Rw Rg Md Four Hs Jrn

def written (J : List I4) (n dy : Int) : Bool := if J.length = 0 then true else ((J.getD (J.length - 1) zI4).x0 == dy) && (((J.getD (J.length - 1) zI4).x1 == n) && isJ J)
theorem written_none {J : List I4} {n dy : Int} (h : J.length = 0) : written J n dy = true := if_pos h
theorem written_some {J : List I4} {n dy : Int} (h : ¬ J.length = 0) : written J n dy = (((J.getD (J.length - 1) zI4).x0 == dy) && (((J.getD (J.length - 1) zI4).x1 == n) && isJ J)) := if_neg h
theorem isJ_none {J : List I4} (h : J.length = 0) : isJ J = true := isJ_yes (by omega) (fun j hj => by omega)

set_option maxRecDepth 20000 in
set_option maxHeartbeats 2000000 in
theorem sWri_any (w : World) (W H b m rn n f dy gv ea : Int) (xv dv cv pv jv : Value) (J : List I4) (hj : SeesG enc4 w jv J) :
    Calls Tryd.prog 5 #[.agg #[.int .i64 W, .int .i64 H, xv, .int .i64 b, .int .i64 m, .int .i64 rn, dv, .int .i64 n, .int .i64 f, cv, pv, jv, .int .i64 dy, .int .i64 gv, .int .i64 ea]] w fun e w' => e = .returned (.bool (written J n dy)) ∧ w.grownBy w' none := by
  have hjl := hj.len
  have HJV := Lib.hid hj
  have hjk := hj
  obtain ⟨ja, jc, rfl, _⟩ := hjk
  have g0 := World.grownBy_alloc w (.cells #[.int .i64 W, .int .i64 H, xv, .int .i64 b, .int .i64 m, .int .i64 rn, dv, .int .i64 n, .int .i64 f, cv, pv, .slice ja J.length jc, .int .i64 dy, .int .i64 gv, .int .i64 ea] 45 (0, 0)) (none : Option Nat)
  have B0 := Lib.hid (box_new w #[.int .i64 W, .int .i64 H, xv, .int .i64 b, .int .i64 m, .int .i64 rn, dv, .int .i64 n, .int .i64 f, cv, pv, .slice ja J.length jc, .int .i64 dy, .int .i64 gv, .int .i64 ea] 45)
  have HG := Lib.hid g0
  have HIJ := Lib.hid fun w' (hg : w.grownBy w' none) => Jrn.sIsJ_any w' _ J (hj.grown hg)
  have hcell := fun w' (hg : (w.alloc (.cells #[.int .i64 W, .int .i64 H, xv, .int .i64 b, .int .i64 m, .int .i64 rn, dv, .int .i64 n, .int .i64 f, cv, pv, .slice ja J.length jc, .int .i64 dy, .int .i64 gv, .int .i64 ea] 45 (0, 0))).grownBy w' none) (i : Nat) => (B0.out.grown hg).cell i
  have HCELL : Hid (∀ w', (w.alloc (.cells #[.int .i64 W, .int .i64 H, xv, .int .i64 b, .int .i64 m, .int .i64 rn, dv, .int .i64 n, .int .i64 f, cv, pv, .slice ja J.length jc, .int .i64 dy, .int .i64 gv, .int .i64 ea] 45 (0, 0))).grownBy w' none → w'.cell? ⟨w.heap.size, 7, none⟩ = some (.int .i64 n) ∧ w'.cell? ⟨w.heap.size, 11, none⟩ = some (.slice ja J.length jc) ∧ w'.cell? ⟨w.heap.size, 12, none⟩ = some (.int .i64 dy)) := fun w' hg => ⟨(B0.out.grown hg).cell 7, (B0.out.grown hg).cell 11, (B0.out.grown hg).cell 12⟩
  obtain ⟨c7, c11, c12⟩ := HCELL.out _ (World.grownBy.refl _ _)
  clear g0 hj hcell
  by_cases h0 : J.length = 0
  · have HR : Hid (written J n dy = true) := written_none h0
    obtain rfl : J = [] := List.eq_nil_of_length_eq_zero h0
    simp only [List.length_nil] at *
    rw [isJ_none (J := []) rfl] at HIJ
    go_enter Tryd.func5, Tryd.ntmps5
    go_wp2_with fail
    refine (HIJ.out _ HG.out).mono ?_
    rintro e w2 ⟨rfl, hg⟩
    have HG2 := Lib.hid (grownN_trans HG.out hg)
    have HCE2 := Lib.hid (HCELL.out _ hg)
    have HGW := Lib.hid hg
    clear hg c7 c11 c12
    obtain ⟨c7, c11, c12⟩ := HCE2.out
    go_wp2
    go_ret
    exact ⟨ret_bool HR.out.symm, HG2.out⟩
  · obtain ⟨x, hx⟩ : ∃ x, J.getD (J.length - 1) zI4 = x := ⟨_, rfl⟩
    have hlt : J.length - 1 < J.length := by omega
    obtain ⟨q, o, rfl, _, _⟩ := HJV.out.at_row hlt
    have HAT := Lib.hid fun w' (hg : w.grownBy w' none) => at4_in HJV.out hg hlt hx
    obtain ⟨k, hk⟩ : ∃ k : Nat, k = J.length - 1 := ⟨_, rfl⟩
    have hkI : (J.length : Int) - 1 = (k : Int) := by omega
    have hk0 : (0 : Int) ≤ (k : Int) := by omega
    have hkl : (k : Int) < (J.length : Int) := by omega
    have hkw : IntKind.i64.wrap (k : Int) = (k : Int) := IntWalk.i64_in _ (by omega)
    have hnb : ((J.length : Int) == 0) = false := by simpa using h0
    rw [← hk] at HAT
    have hws := written_some (n := n) (dy := dy) h0
    rw [hx] at hws
    have HWS := Lib.hid hws
    clear hx hk hws
    obtain ⟨x0, x1, x2, x3⟩ := x
    dsimp only at HAT HWS
    cases hz : isJ J
    · have HR : Hid (written J n dy = false) := by show _ = _; rw [HWS.out, hz]; simp
      rw [hz] at HIJ
      clear hz
      go_enter Tryd.func5, Tryd.ntmps5
      go_wp2_with fail
      refine (HIJ.out _ HG.out).mono ?_
      rintro e w2 ⟨rfl, hg⟩
      have HG2 := Lib.hid (grownN_trans HG.out hg)
      have HCE2 := Lib.hid (HCELL.out _ hg)
      have HGW := Lib.hid hg
      clear hg c7 c11 c12
      obtain ⟨c7, c11, c12⟩ := HCE2.out
      go_wp2
      go_ret
      exact ⟨ret_bool HR.out.symm, HG2.out⟩
    · rw [hz] at HIJ HWS
      clear hz
      by_cases h1 : x0 = dy
      · by_cases h2 : x1 = n
        · have HR : Hid (written J n dy = true) := by show _ = _; rw [HWS.out, h1, h2]; simp
          subst h1 h2
          go_enter Tryd.func5, Tryd.ntmps5
          go_wp2_with fail
          refine (HIJ.out _ HG.out).mono ?_
          rintro e w2 ⟨rfl, hg⟩
          have HG2 := Lib.hid (grownN_trans HG.out hg)
          have HCE2 := Lib.hid (HCELL.out _ hg)
          have HGW := Lib.hid hg
          clear hg c7 c11 c12
          obtain ⟨c7, c11, c12⟩ := HCE2.out
          obtain ⟨d0, d1, d2, d3⟩ := HAT.out _ HG2.out
          obtain ⟨e7, e11, e12⟩ := HCELL.out _ (grownN_trans HGW.out (World.grownBy_alloc w2 (.cells #[.int .i64 x0, .int .i64 x1, .int .i64 x2, .int .i64 x3] 55 (0, 0)) none))
          go_wp2
          go_ret
          exact ⟨ret_bool HR.out.symm, grownN_trans HG2.out (World.grownBy_alloc _ _ _)⟩
        · have h2b : (x1 == n) = false := by simpa using h2
          have HR : Hid (written J n dy = false) := by show _ = _; rw [HWS.out, h2b]; simp
          subst h1
          go_enter Tryd.func5, Tryd.ntmps5
          go_wp2_with fail
          refine (HIJ.out _ HG.out).mono ?_
          rintro e w2 ⟨rfl, hg⟩
          have HG2 := Lib.hid (grownN_trans HG.out hg)
          have HCE2 := Lib.hid (HCELL.out _ hg)
          have HGW := Lib.hid hg
          clear hg c7 c11 c12
          obtain ⟨c7, c11, c12⟩ := HCE2.out
          obtain ⟨d0, d1, d2, d3⟩ := HAT.out _ HG2.out
          obtain ⟨e7, e11, e12⟩ := HCELL.out _ (grownN_trans HGW.out (World.grownBy_alloc w2 (.cells #[.int .i64 x0, .int .i64 x1, .int .i64 x2, .int .i64 x3] 55 (0, 0)) none))
          go_wp2
          go_ret
          exact ⟨ret_bool HR.out.symm, grownN_trans HG2.out (World.grownBy_alloc _ _ _)⟩
      · have h1b : (x0 == dy) = false := by simpa using h1
        have HR : Hid (written J n dy = false) := by show _ = _; rw [HWS.out, h1b]; simp
        go_enter Tryd.func5, Tryd.ntmps5
        go_wp2_with fail
        refine (HIJ.out _ HG.out).mono ?_
        rintro e w2 ⟨rfl, hg⟩
        have HG2 := Lib.hid (grownN_trans HG.out hg)
        have HCE2 := Lib.hid (HCELL.out _ hg)
        have HGW := Lib.hid hg
        clear hg c7 c11 c12
        obtain ⟨c7, c11, c12⟩ := HCE2.out
        obtain ⟨d0, d1, d2, d3⟩ := HAT.out _ HG2.out
        obtain ⟨e7, e11, e12⟩ := HCELL.out _ (grownN_trans HGW.out (World.grownBy_alloc w2 (.cells #[.int .i64 x0, .int .i64 x1, .int .i64 x2, .int .i64 x3] 55 (0, 0)) none))
        go_wp2
        go_ret
        exact ⟨ret_bool HR.out.symm, grownN_trans HG2.out (World.grownBy_alloc _ _ _)⟩

set_option maxRecDepth 20000 in
set_option maxHeartbeats 2000000 in
theorem iWri_any (w : World) (W H b m rn n f dy gv ea : Int) (xv dv cv pv jv : Value) (J : List I4) (hj : SeesG enc4 w jv J) (hv : VC w) :
    Calls Tryd.prog 7 #[.agg #[.int .i64 W, .int .i64 H, xv, .int .i64 b, .int .i64 m, .int .i64 rn, dv, .int .i64 n, .int .i64 f, cv, pv, jv, .int .i64 dy, .int .i64 gv, .int .i64 ea]] w fun e w' => e = .returned (.bool (written J n dy)) ∧ w.grownBy w' none := by
  have hjl := hj.len
  have HJV := Lib.hid hj
  have hjk := hj
  obtain ⟨ja, jc, rfl, _⟩ := hjk
  have g0 := World.grownBy_alloc w (.cells #[.int .i64 W, .int .i64 H, xv, .int .i64 b, .int .i64 m, .int .i64 rn, dv, .int .i64 n, .int .i64 f, cv, pv, .slice ja J.length jc, .int .i64 dy, .int .i64 gv, .int .i64 ea] 45 (0, 0)) (none : Option Nat)
  have B0 := Lib.hid (box_new w #[.int .i64 W, .int .i64 H, xv, .int .i64 b, .int .i64 m, .int .i64 rn, dv, .int .i64 n, .int .i64 f, cv, pv, .slice ja J.length jc, .int .i64 dy, .int .i64 gv, .int .i64 ea] 45)
  have HG := Lib.hid g0
  have HIJ := Lib.hid fun w' (hg : w.grownBy w' none) => Jrn.iIsJ_any w' _ J (hj.grown hg) (hv.grown hg)
  have hcell := fun w' (hg : (w.alloc (.cells #[.int .i64 W, .int .i64 H, xv, .int .i64 b, .int .i64 m, .int .i64 rn, dv, .int .i64 n, .int .i64 f, cv, pv, .slice ja J.length jc, .int .i64 dy, .int .i64 gv, .int .i64 ea] 45 (0, 0))).grownBy w' none) (i : Nat) => (B0.out.grown hg).cell i
  have HCELL : Hid (∀ w', (w.alloc (.cells #[.int .i64 W, .int .i64 H, xv, .int .i64 b, .int .i64 m, .int .i64 rn, dv, .int .i64 n, .int .i64 f, cv, pv, .slice ja J.length jc, .int .i64 dy, .int .i64 gv, .int .i64 ea] 45 (0, 0))).grownBy w' none → w'.cell? ⟨w.heap.size, 7, none⟩ = some (.int .i64 n) ∧ w'.cell? ⟨w.heap.size, 11, none⟩ = some (.slice ja J.length jc) ∧ w'.cell? ⟨w.heap.size, 12, none⟩ = some (.int .i64 dy)) := fun w' hg => ⟨(B0.out.grown hg).cell 7, (B0.out.grown hg).cell 11, (B0.out.grown hg).cell 12⟩
  obtain ⟨c7, c11, c12⟩ := HCELL.out _ (World.grownBy.refl _ _)
  clear g0 hj hcell hv
  by_cases h0 : J.length = 0
  · have HR : Hid (written J n dy = true) := written_none h0
    obtain rfl : J = [] := List.eq_nil_of_length_eq_zero h0
    simp only [List.length_nil] at *
    go_enter Tryd.func7, Tryd.ntmps7
    go_wp2
    go_ret
    exact ⟨ret_bool HR.out.symm, HG.out⟩
  · obtain ⟨x, hx⟩ : ∃ x, J.getD (J.length - 1) zI4 = x := ⟨_, rfl⟩
    have hlt : J.length - 1 < J.length := by omega
    obtain ⟨q, o, rfl, _, _⟩ := HJV.out.at_row hlt
    have HAT := Lib.hid fun w' (hg : w.grownBy w' none) => at4_in HJV.out hg hlt hx
    obtain ⟨k, hk⟩ : ∃ k : Nat, k = J.length - 1 := ⟨_, rfl⟩
    have hkI : (J.length : Int) - 1 = (k : Int) := by omega
    have hk0 : (0 : Int) ≤ (k : Int) := by omega
    have hkl : (k : Int) < (J.length : Int) := by omega
    have hkw : IntKind.i64.wrap (k : Int) = (k : Int) := IntWalk.i64_in _ (by omega)
    have hnb : ((J.length : Int) == 0) = false := by simpa using h0
    rw [← hk] at HAT
    have hws := written_some (n := n) (dy := dy) h0
    rw [hx] at hws
    have HWS := Lib.hid hws
    clear hx hk hws
    obtain ⟨x0, x1, x2, x3⟩ := x
    dsimp only at HAT HWS
    obtain ⟨d0, d1, d2, d3⟩ := HAT.out _ HG.out
    by_cases h1 : x0 = dy
    · by_cases h2 : x1 = n
      · have HR : Hid (written J n dy = isJ J) := by show _ = _; rw [HWS.out, h1, h2]; simp
        subst h1 h2
        have HIJ2 := Lib.hid fun w' hg => HIJ.out w' (grownN_trans HG.out hg)
        obtain ⟨z, hz⟩ : ∃ z, z = isJ J := ⟨_, rfl⟩
        rw [← hz] at HR HIJ2
        clear hz
        have HGA := Lib.hid (World.grownBy_alloc (w.alloc (.cells #[.int .i64 W, .int .i64 H, xv, .int .i64 b, .int .i64 m, .int .i64 rn, dv, .int .i64 x1, .int .i64 f, cv, pv, .slice (some ⟨q, o, none⟩) J.length jc, .int .i64 x0, .int .i64 gv, .int .i64 ea] 45 (0, 0))) (.cells #[.int .i64 x0, .int .i64 x1, .int .i64 x2, .int .i64 x3] 55 (0, 0)) none)
        go_enter Tryd.func7, Tryd.ntmps7
        go_wp2_with fail
        refine (HIJ2.out _ HGA.out).mono ?_
        rintro e w3 ⟨rfl, hg⟩
        have HG3 := Lib.hid (grownN_trans (grownN_trans HG.out HGA.out) hg)
        clear hg
        go_wp2
        go_ret
        exact ⟨ret_bool HR.out.symm, HG3.out⟩
      · have h2b : (x1 == n) = false := by simpa using h2
        have HR : Hid (written J n dy = false) := by show _ = _; rw [HWS.out, h2b]; simp
        subst h1
        go_enter Tryd.func7, Tryd.ntmps7
        go_wp2
        go_ret
        exact ⟨ret_bool HR.out.symm, grownN_trans HG.out (World.grownBy_alloc _ _ _)⟩
    · have h1b : (x0 == dy) = false := by simpa using h1
      have HR : Hid (written J n dy = false) := by show _ = _; rw [HWS.out, h1b]; simp
      go_enter Tryd.func7, Tryd.ntmps7
      go_wp2
      go_ret
      exact ⟨ret_bool HR.out.symm, grownN_trans HG.out (World.grownBy_alloc _ _ _)⟩
end Go.Proofs.YtochohoihmfanaaDoor.Wri

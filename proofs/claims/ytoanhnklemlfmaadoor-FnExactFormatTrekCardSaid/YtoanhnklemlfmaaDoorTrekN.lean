/- Contracts of the laws' helpers on expeditions: sizes. -/
import Derived.Test.YtoanhnklemlfmaaDoorTrekL
namespace Go.Proofs.YtoanhnklemlfmaaDoor.TrekL
open Go.RowKit Kit Rw Rg Four PartyL
set_option maxRecDepth 100000 in
set_option maxHeartbeats 8000000 in
theorem szTrek_yes (w : World) (W H b m rn n f dy gv ea : Int) (xv dv cv pv jv : Value) (X : List Int) (D : List (Int × Int)) (L : List Mem) (P : List Bool) (J : List I4) (left : Int) (hx : Sees .i64 w xv X) (hd : SeesG encP w dv D) (hc : SeesG encM w cv L) (hp : SeesG encB w pv P) (hj : SeesG enc4 w jv J) (h : ((X.length : Int) + (D.length : Int) + (L.length : Int) + (P.length : Int) + (J.length : Int)) ≤ left) (hl : 0 ≤ left) (hl' : left ≤ 1048576) :
    Calls Tryd.prog 44 #[.agg #[.int .i64 W, .int .i64 H, xv, .int .i64 b, .int .i64 m, .int .i64 rn, dv, .int .i64 n, .int .i64 f, cv, pv, jv, .int .i64 dy, .int .i64 gv, .int .i64 ea], .int .i64 left] w fun e w' => e = .returned (.int .i64 (left - ((X.length : Int) + (D.length : Int) + (L.length : Int) + (P.length : Int) + (J.length : Int)))) ∧ w.grownBy w' none := by
  have g0 := World.grownBy_alloc w (.cells #[.int .i64 W, .int .i64 H, xv, .int .i64 b, .int .i64 m, .int .i64 rn, dv, .int .i64 n, .int .i64 f, cv, pv, jv, .int .i64 dy, .int .i64 gv, .int .i64 ea] 68 (0, 0)) (none : Option Nat)
  have B0 := Lib.hid (box_new w #[.int .i64 W, .int .i64 H, xv, .int .i64 b, .int .i64 m, .int .i64 rn, dv, .int .i64 n, .int .i64 f, cv, pv, jv, .int .i64 dy, .int .i64 gv, .int .i64 ea] 68)
  have G0 := Lib.hid g0
  have Kx := Lib.hid (hx.grown G0.out)
  have Kd := Lib.hid (hd.grown G0.out)
  have Kc := Lib.hid (hc.grown G0.out)
  have Kp := Lib.hid (hp.grown G0.out)
  have Kj := Lib.hid (hj.grown G0.out)
  have HH := Lib.hid h
  clear g0 hx hd hc hp hj h
  have c0 : World.cell? (w.alloc (.cells #[.int .i64 W, .int .i64 H, xv, .int .i64 b, .int .i64 m, .int .i64 rn, dv, .int .i64 n, .int .i64 f, cv, pv, jv, .int .i64 dy, .int .i64 gv, .int .i64 ea] 68 (0, 0))) ⟨w.heap.size, 0, none⟩ = some (.int .i64 W) := B0.out.cell 0
  have c1 : World.cell? (w.alloc (.cells #[.int .i64 W, .int .i64 H, xv, .int .i64 b, .int .i64 m, .int .i64 rn, dv, .int .i64 n, .int .i64 f, cv, pv, jv, .int .i64 dy, .int .i64 gv, .int .i64 ea] 68 (0, 0))) ⟨w.heap.size, 1, none⟩ = some (.int .i64 H) := B0.out.cell 1
  have c2 : World.cell? (w.alloc (.cells #[.int .i64 W, .int .i64 H, xv, .int .i64 b, .int .i64 m, .int .i64 rn, dv, .int .i64 n, .int .i64 f, cv, pv, jv, .int .i64 dy, .int .i64 gv, .int .i64 ea] 68 (0, 0))) ⟨w.heap.size, 2, none⟩ = some (xv) := B0.out.cell 2
  go_enter Tryd.func44, Tryd.ntmps44
  go_wp2_with fail
  generalize w.alloc (.cells #[.int .i64 W, .int .i64 H, xv, .int .i64 b, .int .i64 m, .int .i64 rn, dv, .int .i64 n, .int .i64 f, cv, pv, jv, .int .i64 dy, .int .i64 gv, .int .i64 ea] 68 (0, 0)) = W0 at *
  clear c0 c1 c2
  refine (LandL.szLand_yes W0 W H _ X left Kx.out (by have := HH.out; omega) (by have := HH.out; omega) (by have := HH.out; omega)).mono ?_
  rintro e V0 ⟨rfl, hg⟩
  have H0 := Lib.hid hg; clear hg
  have hz0 : ¬ (left - (X.length : Int) < 0) := by have := HH.out; omega
  have c6 : World.cell? (V0) ⟨w.heap.size, 6, none⟩ = some (dv) := (B0.out.grown H0.out).cell 6
  go_wp2_with fail
  clear c6
  refine (LawsP.szP_yes V0 _ D (left - (X.length : Int)) (Kd.out.grown H0.out) (by have := HH.out; omega) (by have := HH.out; omega) (by have := HH.out; omega)).mono ?_
  rintro e V1 ⟨rfl, hg⟩
  have H1 := Lib.hid (grownN_trans H0.out hg); clear hg
  have hz1 : ¬ (left - (X.length : Int) - (D.length : Int) < 0) := by have := HH.out; omega
  have c7 : World.cell? (V1) ⟨w.heap.size, 7, none⟩ = some (.int .i64 n) := (B0.out.grown H1.out).cell 7
  have c8 : World.cell? (V1) ⟨w.heap.size, 8, none⟩ = some (.int .i64 f) := (B0.out.grown H1.out).cell 8
  have c9 : World.cell? (V1) ⟨w.heap.size, 9, none⟩ = some (cv) := (B0.out.grown H1.out).cell 9
  have c10 : World.cell? (V1) ⟨w.heap.size, 10, none⟩ = some (pv) := (B0.out.grown H1.out).cell 10
  go_wp2_with fail
  clear c7 c8 c9 c10
  refine (szParty_yes V1 n f _ _ L P (left - (X.length : Int) - (D.length : Int)) (Kc.out.grown H1.out) (Kp.out.grown H1.out) (by have := HH.out; omega) (by have := HH.out; omega) (by have := HH.out; omega)).mono ?_
  rintro e V2 ⟨rfl, hg⟩
  have H2 := Lib.hid (grownN_trans H1.out hg); clear hg
  have hz2 : ¬ (left - (X.length : Int) - (D.length : Int) - ((L.length : Int) + (P.length : Int)) < 0) := by have := HH.out; omega
  have c11 : World.cell? (V2) ⟨w.heap.size, 11, none⟩ = some (jv) := (B0.out.grown H2.out).cell 11
  go_wp2_with fail
  clear c11
  refine (LawsQ.szQ_yes V2 _ J (left - (X.length : Int) - (D.length : Int) - ((L.length : Int) + (P.length : Int))) (Kj.out.grown H2.out) (by have := HH.out; omega) (by have := HH.out; omega) (by have := HH.out; omega)).mono ?_
  rintro e V3 ⟨rfl, hg⟩
  have H3 := Lib.hid (grownN_trans H2.out hg); clear hg
  have hz3 : ¬ (left - (X.length : Int) - (D.length : Int) - ((L.length : Int) + (P.length : Int)) - (J.length : Int) < 0) := by have := HH.out; omega
  go_wp2
  go_ret
  exact ⟨ret_i64 (by have := HH.out; omega), grownN_trans G0.out H3.out⟩
set_option maxRecDepth 100000 in
set_option maxHeartbeats 8000000 in
theorem szTrek_no (w : World) (W H b m rn n f dy gv ea : Int) (xv dv cv pv jv : Value) (X : List Int) (D : List (Int × Int)) (L : List Mem) (P : List Bool) (J : List I4) (left : Int) (hx : Sees .i64 w xv X) (hd : SeesG encP w dv D) (hc : SeesG encM w cv L) (hp : SeesG encB w pv P) (hj : SeesG enc4 w jv J) (h : ¬ ((X.length : Int) + (D.length : Int) + (L.length : Int) + (P.length : Int) + (J.length : Int)) ≤ left) (hl : 0 ≤ left) (hl' : left ≤ 1048576) :
    Calls Tryd.prog 44 #[.agg #[.int .i64 W, .int .i64 H, xv, .int .i64 b, .int .i64 m, .int .i64 rn, dv, .int .i64 n, .int .i64 f, cv, pv, jv, .int .i64 dy, .int .i64 gv, .int .i64 ea], .int .i64 left] w fun e w' => e = .returned (.int .i64 (-1)) ∧ w.grownBy w' none := by
  have g0 := World.grownBy_alloc w (.cells #[.int .i64 W, .int .i64 H, xv, .int .i64 b, .int .i64 m, .int .i64 rn, dv, .int .i64 n, .int .i64 f, cv, pv, jv, .int .i64 dy, .int .i64 gv, .int .i64 ea] 68 (0, 0)) (none : Option Nat)
  have B0 := Lib.hid (box_new w #[.int .i64 W, .int .i64 H, xv, .int .i64 b, .int .i64 m, .int .i64 rn, dv, .int .i64 n, .int .i64 f, cv, pv, jv, .int .i64 dy, .int .i64 gv, .int .i64 ea] 68)
  have G0 := Lib.hid g0
  have Kx := Lib.hid (hx.grown G0.out)
  have Kd := Lib.hid (hd.grown G0.out)
  have Kc := Lib.hid (hc.grown G0.out)
  have Kp := Lib.hid (hp.grown G0.out)
  have Kj := Lib.hid (hj.grown G0.out)
  have HH := Lib.hid h
  clear g0 hx hd hc hp hj h
  have c0 : World.cell? (w.alloc (.cells #[.int .i64 W, .int .i64 H, xv, .int .i64 b, .int .i64 m, .int .i64 rn, dv, .int .i64 n, .int .i64 f, cv, pv, jv, .int .i64 dy, .int .i64 gv, .int .i64 ea] 68 (0, 0))) ⟨w.heap.size, 0, none⟩ = some (.int .i64 W) := B0.out.cell 0
  have c1 : World.cell? (w.alloc (.cells #[.int .i64 W, .int .i64 H, xv, .int .i64 b, .int .i64 m, .int .i64 rn, dv, .int .i64 n, .int .i64 f, cv, pv, jv, .int .i64 dy, .int .i64 gv, .int .i64 ea] 68 (0, 0))) ⟨w.heap.size, 1, none⟩ = some (.int .i64 H) := B0.out.cell 1
  have c2 : World.cell? (w.alloc (.cells #[.int .i64 W, .int .i64 H, xv, .int .i64 b, .int .i64 m, .int .i64 rn, dv, .int .i64 n, .int .i64 f, cv, pv, jv, .int .i64 dy, .int .i64 gv, .int .i64 ea] 68 (0, 0))) ⟨w.heap.size, 2, none⟩ = some (xv) := B0.out.cell 2
  go_enter Tryd.func44, Tryd.ntmps44
  go_wp2_with fail
  generalize w.alloc (.cells #[.int .i64 W, .int .i64 H, xv, .int .i64 b, .int .i64 m, .int .i64 rn, dv, .int .i64 n, .int .i64 f, cv, pv, jv, .int .i64 dy, .int .i64 gv, .int .i64 ea] 68 (0, 0)) = W0 at *
  clear c0 c1 c2
  by_cases z0 : (X.length : Int) ≤ left
  rotate_left
  · skip
    refine (LandL.szLand_no W0 W H _ X left Kx.out (by have := HH.out; omega) (by have := HH.out; omega) (by have := HH.out; omega)).mono ?_
    rintro e V0 ⟨rfl, hg⟩
    have H0 := Lib.hid hg; clear hg
    go_wp2
    go_ret
    exact ⟨rfl, grownN_trans G0.out H0.out⟩
  by_cases z1 : (D.length : Int) ≤ left - (X.length : Int)
  rotate_left
  · skip
    refine (LandL.szLand_yes W0 W H _ X left Kx.out (by have := HH.out; omega) (by have := HH.out; omega) (by have := HH.out; omega)).mono ?_
    rintro e V0 ⟨rfl, hg⟩
    have H0 := Lib.hid hg; clear hg
    have hz0 : ¬ (left - (X.length : Int) < 0) := by have := HH.out; omega
    have c6 : World.cell? (V0) ⟨w.heap.size, 6, none⟩ = some (dv) := (B0.out.grown H0.out).cell 6
    go_wp2_with fail
    clear c6
    refine (LawsP.szP_no V0 _ D (left - (X.length : Int)) (Kd.out.grown H0.out) (by have := HH.out; omega) (by have := HH.out; omega) (by have := HH.out; omega)).mono ?_
    rintro e V1 ⟨rfl, hg⟩
    have H1 := Lib.hid (grownN_trans H0.out hg); clear hg
    go_wp2
    go_ret
    exact ⟨rfl, grownN_trans G0.out H1.out⟩
  by_cases z2 : ((L.length : Int) + (P.length : Int)) ≤ left - (X.length : Int) - (D.length : Int)
  rotate_left
  · skip
    refine (LandL.szLand_yes W0 W H _ X left Kx.out (by have := HH.out; omega) (by have := HH.out; omega) (by have := HH.out; omega)).mono ?_
    rintro e V0 ⟨rfl, hg⟩
    have H0 := Lib.hid hg; clear hg
    have hz0 : ¬ (left - (X.length : Int) < 0) := by have := HH.out; omega
    have c6 : World.cell? (V0) ⟨w.heap.size, 6, none⟩ = some (dv) := (B0.out.grown H0.out).cell 6
    go_wp2_with fail
    clear c6
    refine (LawsP.szP_yes V0 _ D (left - (X.length : Int)) (Kd.out.grown H0.out) (by have := HH.out; omega) (by have := HH.out; omega) (by have := HH.out; omega)).mono ?_
    rintro e V1 ⟨rfl, hg⟩
    have H1 := Lib.hid (grownN_trans H0.out hg); clear hg
    have hz1 : ¬ (left - (X.length : Int) - (D.length : Int) < 0) := by have := HH.out; omega
    have c7 : World.cell? (V1) ⟨w.heap.size, 7, none⟩ = some (.int .i64 n) := (B0.out.grown H1.out).cell 7
    have c8 : World.cell? (V1) ⟨w.heap.size, 8, none⟩ = some (.int .i64 f) := (B0.out.grown H1.out).cell 8
    have c9 : World.cell? (V1) ⟨w.heap.size, 9, none⟩ = some (cv) := (B0.out.grown H1.out).cell 9
    have c10 : World.cell? (V1) ⟨w.heap.size, 10, none⟩ = some (pv) := (B0.out.grown H1.out).cell 10
    go_wp2_with fail
    clear c7 c8 c9 c10
    refine (szParty_no V1 n f _ _ L P (left - (X.length : Int) - (D.length : Int)) (Kc.out.grown H1.out) (Kp.out.grown H1.out) (by have := HH.out; omega) (by have := HH.out; omega) (by have := HH.out; omega)).mono ?_
    rintro e V2 ⟨rfl, hg⟩
    have H2 := Lib.hid (grownN_trans H1.out hg); clear hg
    go_wp2
    go_ret
    exact ⟨rfl, grownN_trans G0.out H2.out⟩
  refine (LandL.szLand_yes W0 W H _ X left Kx.out (by have := HH.out; omega) (by have := HH.out; omega) (by have := HH.out; omega)).mono ?_
  rintro e V0 ⟨rfl, hg⟩
  have H0 := Lib.hid hg; clear hg
  have hz0 : ¬ (left - (X.length : Int) < 0) := by have := HH.out; omega
  have c6 : World.cell? (V0) ⟨w.heap.size, 6, none⟩ = some (dv) := (B0.out.grown H0.out).cell 6
  go_wp2_with fail
  clear c6
  refine (LawsP.szP_yes V0 _ D (left - (X.length : Int)) (Kd.out.grown H0.out) (by have := HH.out; omega) (by have := HH.out; omega) (by have := HH.out; omega)).mono ?_
  rintro e V1 ⟨rfl, hg⟩
  have H1 := Lib.hid (grownN_trans H0.out hg); clear hg
  have hz1 : ¬ (left - (X.length : Int) - (D.length : Int) < 0) := by have := HH.out; omega
  have c7 : World.cell? (V1) ⟨w.heap.size, 7, none⟩ = some (.int .i64 n) := (B0.out.grown H1.out).cell 7
  have c8 : World.cell? (V1) ⟨w.heap.size, 8, none⟩ = some (.int .i64 f) := (B0.out.grown H1.out).cell 8
  have c9 : World.cell? (V1) ⟨w.heap.size, 9, none⟩ = some (cv) := (B0.out.grown H1.out).cell 9
  have c10 : World.cell? (V1) ⟨w.heap.size, 10, none⟩ = some (pv) := (B0.out.grown H1.out).cell 10
  go_wp2_with fail
  clear c7 c8 c9 c10
  refine (szParty_yes V1 n f _ _ L P (left - (X.length : Int) - (D.length : Int)) (Kc.out.grown H1.out) (Kp.out.grown H1.out) (by have := HH.out; omega) (by have := HH.out; omega) (by have := HH.out; omega)).mono ?_
  rintro e V2 ⟨rfl, hg⟩
  have H2 := Lib.hid (grownN_trans H1.out hg); clear hg
  have hz2 : ¬ (left - (X.length : Int) - (D.length : Int) - ((L.length : Int) + (P.length : Int)) < 0) := by have := HH.out; omega
  have c11 : World.cell? (V2) ⟨w.heap.size, 11, none⟩ = some (jv) := (B0.out.grown H2.out).cell 11
  go_wp2_with fail
  clear c11
  refine (LawsQ.szQ_no V2 _ J (left - (X.length : Int) - (D.length : Int) - ((L.length : Int) + (P.length : Int))) (Kj.out.grown H2.out) (by have := HH.out; omega) (by have := HH.out; omega) (by have := HH.out; omega)).mono ?_
  rintro e V3 ⟨rfl, hg⟩
  have H3 := Lib.hid (grownN_trans H2.out hg); clear hg
  go_wp2
  go_ret
  exact ⟨rfl, grownN_trans G0.out H3.out⟩
end Go.Proofs.YtoanhnklemlfmaaDoor.TrekL

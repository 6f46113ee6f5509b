/- Contracts of the laws' helpers on expeditions: comparisons. -/
import Derived.Test.YtoanhnklemlfmaaDoorTrekL
namespace Go.Proofs.YtoanhnklemlfmaaDoor.TrekL
open Go.RowKit Kit Rw Rg Four PartyL

theorem eqRule_same (w : World) (m rn : Int) :
    Calls Tryd.prog 96 #[.agg #[.int .i64 m, .int .i64 rn], .agg #[.int .i64 m, .int .i64 rn]] w fun e w' => e = .returned (.bool true) ∧ w.grownBy w' none := by
  have HG := Lib.hid (grownN_trans (World.grownBy_alloc w (.cells #[.int .i64 m, .int .i64 rn] 71 (0, 0)) none) (World.grownBy_alloc _ (.cells #[.int .i64 m, .int .i64 rn] 71 (0, 0)) none))
  go_enter Tryd.func96, Tryd.ntmps96
  go_wp2
  go_ret
  exact ⟨rfl, HG.out⟩

set_option maxRecDepth 100000 in
set_option maxHeartbeats 8000000 in
theorem eqTrek_same (w : World) (W H b m rn n f dy gv ea : Int) (xv dv cv pv jv xv' dv' cv' pv' jv' : Value) (X : List Int) (D : List (Int × Int)) (L : List Mem) (P : List Bool) (J : List I4) (hx : Sees .i64 w xv X) (hd : SeesG encP w dv D) (hc : SeesG encM w cv L) (hp : SeesG encB w pv P) (hj : SeesG enc4 w jv J) (hx' : Sees .i64 w xv' X) (hd' : SeesG encP w dv' D) (hc' : SeesG encM w cv' L) (hp' : SeesG encB w pv' P) (hj' : SeesG enc4 w jv' J) :
    Calls Tryd.prog 48 #[.agg #[.int .i64 W, .int .i64 H, xv, .int .i64 b, .int .i64 m, .int .i64 rn, dv, .int .i64 n, .int .i64 f, cv, pv, jv, .int .i64 dy, .int .i64 gv, .int .i64 ea], .agg #[.int .i64 W, .int .i64 H, xv', .int .i64 b, .int .i64 m, .int .i64 rn, dv', .int .i64 n, .int .i64 f, cv', pv', jv', .int .i64 dy, .int .i64 gv, .int .i64 ea]] w fun e w' => e = .returned (.bool true) ∧ w.grownBy w' none := by
  have g0 := World.grownBy_alloc w (.cells #[.int .i64 W, .int .i64 H, xv, .int .i64 b, .int .i64 m, .int .i64 rn, dv, .int .i64 n, .int .i64 f, cv, pv, jv, .int .i64 dy, .int .i64 gv, .int .i64 ea] 73 (0, 0)) (none : Option Nat)
  have g1 := World.grownBy_alloc (w.alloc (.cells #[.int .i64 W, .int .i64 H, xv, .int .i64 b, .int .i64 m, .int .i64 rn, dv, .int .i64 n, .int .i64 f, cv, pv, jv, .int .i64 dy, .int .i64 gv, .int .i64 ea] 73 (0, 0))) (.cells #[.int .i64 W, .int .i64 H, xv', .int .i64 b, .int .i64 m, .int .i64 rn, dv', .int .i64 n, .int .i64 f, cv', pv', jv', .int .i64 dy, .int .i64 gv, .int .i64 ea] 73 (0, 0)) (none : Option Nat)
  have b0 := (box_new w #[.int .i64 W, .int .i64 H, xv, .int .i64 b, .int .i64 m, .int .i64 rn, dv, .int .i64 n, .int .i64 f, cv, pv, jv, .int .i64 dy, .int .i64 gv, .int .i64 ea] 73).grown g1
  have b1 := box_new (w.alloc (.cells #[.int .i64 W, .int .i64 H, xv, .int .i64 b, .int .i64 m, .int .i64 rn, dv, .int .i64 n, .int .i64 f, cv, pv, jv, .int .i64 dy, .int .i64 gv, .int .i64 ea] 73 (0, 0))) #[.int .i64 W, .int .i64 H, xv', .int .i64 b, .int .i64 m, .int .i64 rn, dv', .int .i64 n, .int .i64 f, cv', pv', jv', .int .i64 dy, .int .i64 gv, .int .i64 ea] 73
  simp only [World.size_alloc] at b1
  have G0 := Lib.hid (grownN_trans g0 g1)
  have Kx := Lib.hid (hx.grown G0.out)
  have Kx' := Lib.hid (hx'.grown G0.out)
  have Kd := Lib.hid (hd.grown G0.out)
  have Kd' := Lib.hid (hd'.grown G0.out)
  have Kc := Lib.hid (hc.grown G0.out)
  have Kc' := Lib.hid (hc'.grown G0.out)
  have Kp := Lib.hid (hp.grown G0.out)
  have Kp' := Lib.hid (hp'.grown G0.out)
  have Kj := Lib.hid (hj.grown G0.out)
  have Kj' := Lib.hid (hj'.grown G0.out)
  have B0 := Lib.hid b0
  have B1 := Lib.hid b1
  clear g0 g1 b0 b1 hx hd hc hp hj hx' hd' hc' hp' hj'
  have ca0 : World.cell? ((w.alloc (.cells #[.int .i64 W, .int .i64 H, xv, .int .i64 b, .int .i64 m, .int .i64 rn, dv, .int .i64 n, .int .i64 f, cv, pv, jv, .int .i64 dy, .int .i64 gv, .int .i64 ea] 73 (0, 0))).alloc (.cells #[.int .i64 W, .int .i64 H, xv', .int .i64 b, .int .i64 m, .int .i64 rn, dv', .int .i64 n, .int .i64 f, cv', pv', jv', .int .i64 dy, .int .i64 gv, .int .i64 ea] 73 (0, 0))) ⟨w.heap.size, 0, none⟩ = some (.int .i64 W) := B0.out.cell 0
  have cb0 : World.cell? ((w.alloc (.cells #[.int .i64 W, .int .i64 H, xv, .int .i64 b, .int .i64 m, .int .i64 rn, dv, .int .i64 n, .int .i64 f, cv, pv, jv, .int .i64 dy, .int .i64 gv, .int .i64 ea] 73 (0, 0))).alloc (.cells #[.int .i64 W, .int .i64 H, xv', .int .i64 b, .int .i64 m, .int .i64 rn, dv', .int .i64 n, .int .i64 f, cv', pv', jv', .int .i64 dy, .int .i64 gv, .int .i64 ea] 73 (0, 0))) ⟨w.heap.size + 1, 0, none⟩ = some (.int .i64 W) := B1.out.cell 0
  have ca1 : World.cell? ((w.alloc (.cells #[.int .i64 W, .int .i64 H, xv, .int .i64 b, .int .i64 m, .int .i64 rn, dv, .int .i64 n, .int .i64 f, cv, pv, jv, .int .i64 dy, .int .i64 gv, .int .i64 ea] 73 (0, 0))).alloc (.cells #[.int .i64 W, .int .i64 H, xv', .int .i64 b, .int .i64 m, .int .i64 rn, dv', .int .i64 n, .int .i64 f, cv', pv', jv', .int .i64 dy, .int .i64 gv, .int .i64 ea] 73 (0, 0))) ⟨w.heap.size, 1, none⟩ = some (.int .i64 H) := B0.out.cell 1
  have cb1 : World.cell? ((w.alloc (.cells #[.int .i64 W, .int .i64 H, xv, .int .i64 b, .int .i64 m, .int .i64 rn, dv, .int .i64 n, .int .i64 f, cv, pv, jv, .int .i64 dy, .int .i64 gv, .int .i64 ea] 73 (0, 0))).alloc (.cells #[.int .i64 W, .int .i64 H, xv', .int .i64 b, .int .i64 m, .int .i64 rn, dv', .int .i64 n, .int .i64 f, cv', pv', jv', .int .i64 dy, .int .i64 gv, .int .i64 ea] 73 (0, 0))) ⟨w.heap.size + 1, 1, none⟩ = some (.int .i64 H) := B1.out.cell 1
  have ca2 : World.cell? ((w.alloc (.cells #[.int .i64 W, .int .i64 H, xv, .int .i64 b, .int .i64 m, .int .i64 rn, dv, .int .i64 n, .int .i64 f, cv, pv, jv, .int .i64 dy, .int .i64 gv, .int .i64 ea] 73 (0, 0))).alloc (.cells #[.int .i64 W, .int .i64 H, xv', .int .i64 b, .int .i64 m, .int .i64 rn, dv', .int .i64 n, .int .i64 f, cv', pv', jv', .int .i64 dy, .int .i64 gv, .int .i64 ea] 73 (0, 0))) ⟨w.heap.size, 2, none⟩ = some (xv) := B0.out.cell 2
  have cb2 : World.cell? ((w.alloc (.cells #[.int .i64 W, .int .i64 H, xv, .int .i64 b, .int .i64 m, .int .i64 rn, dv, .int .i64 n, .int .i64 f, cv, pv, jv, .int .i64 dy, .int .i64 gv, .int .i64 ea] 73 (0, 0))).alloc (.cells #[.int .i64 W, .int .i64 H, xv', .int .i64 b, .int .i64 m, .int .i64 rn, dv', .int .i64 n, .int .i64 f, cv', pv', jv', .int .i64 dy, .int .i64 gv, .int .i64 ea] 73 (0, 0))) ⟨w.heap.size + 1, 2, none⟩ = some (xv') := B1.out.cell 2
  go_enter Tryd.func48, Tryd.ntmps48
  go_wp2_with fail
  generalize (w.alloc (.cells #[.int .i64 W, .int .i64 H, xv, .int .i64 b, .int .i64 m, .int .i64 rn, dv, .int .i64 n, .int .i64 f, cv, pv, jv, .int .i64 dy, .int .i64 gv, .int .i64 ea] 73 (0, 0))).alloc (.cells #[.int .i64 W, .int .i64 H, xv', .int .i64 b, .int .i64 m, .int .i64 rn, dv', .int .i64 n, .int .i64 f, cv', pv', jv', .int .i64 dy, .int .i64 gv, .int .i64 ea] 73 (0, 0)) = W0 at *
  clear ca0 cb0 ca1 cb1 ca2 cb2
  refine (LandL.eqLand_same W0 W H _ _ X Kx.out Kx'.out).mono ?_
  rintro e V0 ⟨rfl, hg⟩
  have H0 := Lib.hid hg; clear hg
  have ca3 : World.cell? (V0) ⟨w.heap.size, 3, none⟩ = some (.int .i64 b) := (B0.out.grown H0.out).cell 3
  have cb3 : World.cell? (V0) ⟨w.heap.size + 1, 3, none⟩ = some (.int .i64 b) := (B1.out.grown H0.out).cell 3
  have ca4 : World.cell? (V0) ⟨w.heap.size, 4, none⟩ = some (.int .i64 m) := (B0.out.grown H0.out).cell 4
  have cb4 : World.cell? (V0) ⟨w.heap.size + 1, 4, none⟩ = some (.int .i64 m) := (B1.out.grown H0.out).cell 4
  have ca5 : World.cell? (V0) ⟨w.heap.size, 5, none⟩ = some (.int .i64 rn) := (B0.out.grown H0.out).cell 5
  have cb5 : World.cell? (V0) ⟨w.heap.size + 1, 5, none⟩ = some (.int .i64 rn) := (B1.out.grown H0.out).cell 5
  go_wp2_with fail
  clear ca3 cb3 ca4 cb4 ca5 cb5
  refine (eqRule_same V0 m rn).mono ?_
  rintro e V1 ⟨rfl, hg⟩
  have H1 := Lib.hid (grownN_trans H0.out hg); clear hg
  have ca6 : World.cell? (V1) ⟨w.heap.size, 6, none⟩ = some (dv) := (B0.out.grown H1.out).cell 6
  have cb6 : World.cell? (V1) ⟨w.heap.size + 1, 6, none⟩ = some (dv') := (B1.out.grown H1.out).cell 6
  go_wp2_with fail
  clear ca6 cb6
  refine (LawsP.eq_same V1 _ _ D (Kd.out.grown H1.out) (Kd'.out.grown H1.out)).mono ?_
  rintro e V2 ⟨rfl, hg⟩
  have H2 := Lib.hid (grownN_trans H1.out hg); clear hg
  have ca7 : World.cell? (V2) ⟨w.heap.size, 7, none⟩ = some (.int .i64 n) := (B0.out.grown H2.out).cell 7
  have cb7 : World.cell? (V2) ⟨w.heap.size + 1, 7, none⟩ = some (.int .i64 n) := (B1.out.grown H2.out).cell 7
  have ca8 : World.cell? (V2) ⟨w.heap.size, 8, none⟩ = some (.int .i64 f) := (B0.out.grown H2.out).cell 8
  have cb8 : World.cell? (V2) ⟨w.heap.size + 1, 8, none⟩ = some (.int .i64 f) := (B1.out.grown H2.out).cell 8
  have ca9 : World.cell? (V2) ⟨w.heap.size, 9, none⟩ = some (cv) := (B0.out.grown H2.out).cell 9
  have cb9 : World.cell? (V2) ⟨w.heap.size + 1, 9, none⟩ = some (cv') := (B1.out.grown H2.out).cell 9
  have ca10 : World.cell? (V2) ⟨w.heap.size, 10, none⟩ = some (pv) := (B0.out.grown H2.out).cell 10
  have cb10 : World.cell? (V2) ⟨w.heap.size + 1, 10, none⟩ = some (pv') := (B1.out.grown H2.out).cell 10
  go_wp2_with fail
  clear ca7 cb7 ca8 cb8 ca9 cb9 ca10 cb10
  refine (eqParty_same V2 n f _ _ _ _ L P (Kc.out.grown H2.out) (Kp.out.grown H2.out) (Kc'.out.grown H2.out) (Kp'.out.grown H2.out)).mono ?_
  rintro e V3 ⟨rfl, hg⟩
  have H3 := Lib.hid (grownN_trans H2.out hg); clear hg
  have ca11 : World.cell? (V3) ⟨w.heap.size, 11, none⟩ = some (jv) := (B0.out.grown H3.out).cell 11
  have cb11 : World.cell? (V3) ⟨w.heap.size + 1, 11, none⟩ = some (jv') := (B1.out.grown H3.out).cell 11
  go_wp2_with fail
  clear ca11 cb11
  refine (LawsQ.eq_same V3 _ _ J (Kj.out.grown H3.out) (Kj'.out.grown H3.out)).mono ?_
  rintro e V4 ⟨rfl, hg⟩
  have H4 := Lib.hid (grownN_trans H3.out hg); clear hg
  have ca12 : World.cell? (V4) ⟨w.heap.size, 12, none⟩ = some (.int .i64 dy) := (B0.out.grown H4.out).cell 12
  have cb12 : World.cell? (V4) ⟨w.heap.size + 1, 12, none⟩ = some (.int .i64 dy) := (B1.out.grown H4.out).cell 12
  have ca13 : World.cell? (V4) ⟨w.heap.size, 13, none⟩ = some (.int .i64 gv) := (B0.out.grown H4.out).cell 13
  have cb13 : World.cell? (V4) ⟨w.heap.size + 1, 13, none⟩ = some (.int .i64 gv) := (B1.out.grown H4.out).cell 13
  have ca14 : World.cell? (V4) ⟨w.heap.size, 14, none⟩ = some (.int .i64 ea) := (B0.out.grown H4.out).cell 14
  have cb14 : World.cell? (V4) ⟨w.heap.size + 1, 14, none⟩ = some (.int .i64 ea) := (B1.out.grown H4.out).cell 14
  go_wp2
  go_ret
  exact ⟨rfl, grownN_trans G0.out H4.out⟩
end Go.Proofs.YtoanhnklemlfmaaDoor.TrekL

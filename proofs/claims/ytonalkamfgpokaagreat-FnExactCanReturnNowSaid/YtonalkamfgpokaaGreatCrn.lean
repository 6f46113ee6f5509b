/- Contracts of whether an expedition can return now, of the program and of its model. -/
import Derived.Test.YtonalkamfgpokaaGreatTrekL
import Derived.Test.YtonalkamfgpokaaGreatLah
namespace Go.Proofs.YtonalkamfgpokaaGreat.Crn
open Go.RowKit Kit Rw Rg Stm Hom Lah

set_option maxRecDepth 20000 in
set_option maxHeartbeats 1000000 in
theorem sNow_any (w : World) (W H b m rn n f dy gv ea : Int) (xv dv cv pv jv : Value) (X : List Int) (D : List (Int × Int)) (L : List Mem) (P : List Bool) (hm : (Lit.int .i64 m).wf = true) (hrn : (Lit.int .i64 rn).wf = true) (hf : (Lit.int .i64 f).wf = true)
    (hx : Sees .i64 w xv X) (hd : SeesG encP w dv D) (hc : SeesG encM w cv L) (hp : SeesG encB w pv P) :
    Calls Tryz.prog 16 #[.agg #[.int .i64 W, .int .i64 H, xv, .int .i64 b, .int .i64 m, .int .i64 rn, dv, .int .i64 n, .int .i64 f, cv, pv, jv, .int .i64 dy, .int .i64 gv, .int .i64 ea]] w fun e w' => e = .returned (.bool (decide (0 ≤ left W H X b m rn D n f L P))) ∧ w.grownBy w' none := by
  obtain ⟨xa, xn, xc, rfl, HXN⟩ := hx.shape
  obtain ⟨da, dn, dc, rfl, HDN⟩ := hd.shape
  obtain ⟨ca, cn, cc, rfl, HCN⟩ := hc.shape
  obtain ⟨pa, pn, pc, rfl, HPN⟩ := hp.shape
  have g0 := World.grownBy_alloc w (.cells #[.int .i64 W, .int .i64 H, .slice xa xn xc, .int .i64 b, .int .i64 m, .int .i64 rn, .slice da dn dc, .int .i64 n, .int .i64 f, .slice ca cn cc, .slice pa pn pc, jv, .int .i64 dy, .int .i64 gv, .int .i64 ea] 45 (0, 0)) (none : Option Nat)
  have B0 := Lib.hid (box_new w #[.int .i64 W, .int .i64 H, .slice xa xn xc, .int .i64 b, .int .i64 m, .int .i64 rn, .slice da dn dc, .int .i64 n, .int .i64 f, .slice ca cn cc, .slice pa pn pc, jv, .int .i64 dy, .int .i64 gv, .int .i64 ea] 45)
  have HC := Lib.hid (sCan_any _ W H b m rn n f _ _ _ _ X D L P hm hrn hf (hx.grown g0) (hd.grown g0) (hc.grown g0) (hp.grown g0))
  have HG := Lib.hid g0
  have c0 : (w.alloc (.cells #[.int .i64 W, .int .i64 H, .slice xa xn xc, .int .i64 b, .int .i64 m, .int .i64 rn, .slice da dn dc, .int .i64 n, .int .i64 f, .slice ca cn cc, .slice pa pn pc, jv, .int .i64 dy, .int .i64 gv, .int .i64 ea] 45 (0, 0))).cell? ⟨w.heap.size, 0, none⟩ = some (.int .i64 W) := B0.out.cell 0
  have c1 : (w.alloc (.cells #[.int .i64 W, .int .i64 H, .slice xa xn xc, .int .i64 b, .int .i64 m, .int .i64 rn, .slice da dn dc, .int .i64 n, .int .i64 f, .slice ca cn cc, .slice pa pn pc, jv, .int .i64 dy, .int .i64 gv, .int .i64 ea] 45 (0, 0))).cell? ⟨w.heap.size, 1, none⟩ = some (.int .i64 H) := B0.out.cell 1
  have c2 : (w.alloc (.cells #[.int .i64 W, .int .i64 H, .slice xa xn xc, .int .i64 b, .int .i64 m, .int .i64 rn, .slice da dn dc, .int .i64 n, .int .i64 f, .slice ca cn cc, .slice pa pn pc, jv, .int .i64 dy, .int .i64 gv, .int .i64 ea] 45 (0, 0))).cell? ⟨w.heap.size, 2, none⟩ = some (.slice xa xn xc) := B0.out.cell 2
  have c3 : (w.alloc (.cells #[.int .i64 W, .int .i64 H, .slice xa xn xc, .int .i64 b, .int .i64 m, .int .i64 rn, .slice da dn dc, .int .i64 n, .int .i64 f, .slice ca cn cc, .slice pa pn pc, jv, .int .i64 dy, .int .i64 gv, .int .i64 ea] 45 (0, 0))).cell? ⟨w.heap.size, 3, none⟩ = some (.int .i64 b) := B0.out.cell 3
  have c4 : (w.alloc (.cells #[.int .i64 W, .int .i64 H, .slice xa xn xc, .int .i64 b, .int .i64 m, .int .i64 rn, .slice da dn dc, .int .i64 n, .int .i64 f, .slice ca cn cc, .slice pa pn pc, jv, .int .i64 dy, .int .i64 gv, .int .i64 ea] 45 (0, 0))).cell? ⟨w.heap.size, 4, none⟩ = some (.int .i64 m) := B0.out.cell 4
  have c5 : (w.alloc (.cells #[.int .i64 W, .int .i64 H, .slice xa xn xc, .int .i64 b, .int .i64 m, .int .i64 rn, .slice da dn dc, .int .i64 n, .int .i64 f, .slice ca cn cc, .slice pa pn pc, jv, .int .i64 dy, .int .i64 gv, .int .i64 ea] 45 (0, 0))).cell? ⟨w.heap.size, 5, none⟩ = some (.int .i64 rn) := B0.out.cell 5
  have c6 : (w.alloc (.cells #[.int .i64 W, .int .i64 H, .slice xa xn xc, .int .i64 b, .int .i64 m, .int .i64 rn, .slice da dn dc, .int .i64 n, .int .i64 f, .slice ca cn cc, .slice pa pn pc, jv, .int .i64 dy, .int .i64 gv, .int .i64 ea] 45 (0, 0))).cell? ⟨w.heap.size, 6, none⟩ = some (.slice da dn dc) := B0.out.cell 6
  have c7 : (w.alloc (.cells #[.int .i64 W, .int .i64 H, .slice xa xn xc, .int .i64 b, .int .i64 m, .int .i64 rn, .slice da dn dc, .int .i64 n, .int .i64 f, .slice ca cn cc, .slice pa pn pc, jv, .int .i64 dy, .int .i64 gv, .int .i64 ea] 45 (0, 0))).cell? ⟨w.heap.size, 7, none⟩ = some (.int .i64 n) := B0.out.cell 7
  have c8 : (w.alloc (.cells #[.int .i64 W, .int .i64 H, .slice xa xn xc, .int .i64 b, .int .i64 m, .int .i64 rn, .slice da dn dc, .int .i64 n, .int .i64 f, .slice ca cn cc, .slice pa pn pc, jv, .int .i64 dy, .int .i64 gv, .int .i64 ea] 45 (0, 0))).cell? ⟨w.heap.size, 8, none⟩ = some (.int .i64 f) := B0.out.cell 8
  have c9 : (w.alloc (.cells #[.int .i64 W, .int .i64 H, .slice xa xn xc, .int .i64 b, .int .i64 m, .int .i64 rn, .slice da dn dc, .int .i64 n, .int .i64 f, .slice ca cn cc, .slice pa pn pc, jv, .int .i64 dy, .int .i64 gv, .int .i64 ea] 45 (0, 0))).cell? ⟨w.heap.size, 9, none⟩ = some (.slice ca cn cc) := B0.out.cell 9
  have c10 : (w.alloc (.cells #[.int .i64 W, .int .i64 H, .slice xa xn xc, .int .i64 b, .int .i64 m, .int .i64 rn, .slice da dn dc, .int .i64 n, .int .i64 f, .slice ca cn cc, .slice pa pn pc, jv, .int .i64 dy, .int .i64 gv, .int .i64 ea] 45 (0, 0))).cell? ⟨w.heap.size, 10, none⟩ = some (.slice pa pn pc) := B0.out.cell 10
  obtain ⟨z, hz⟩ : ∃ z, z = decide (0 ≤ left W H X b m rn D n f L P) := ⟨_, rfl⟩
  rw [← hz] at HC ⊢
  clear hm hrn hf hx hd hc hp g0 hz
  go_enter Tryz.func16, Tryz.ntmps16
  go_wp2_with fail
  refine HC.out.mono ?_
  rintro e w2 ⟨rfl, hg⟩
  have HG2 := Lib.hid (grownN_trans HG.out hg)
  clear hg
  go_wp2
  go_ret
  exact ⟨rfl, HG2.out⟩

set_option maxRecDepth 20000 in
set_option maxHeartbeats 1000000 in
theorem iNow_any (w : World) (W H b m rn n f dy gv ea : Int) (xv dv cv pv jv : Value) (X : List Int) (D : List (Int × Int)) (L : List Mem) (P : List Bool) (hm : (Lit.int .i64 m).wf = true) (hrn : (Lit.int .i64 rn).wf = true) (hf : (Lit.int .i64 f).wf = true)
    (hx : Sees .i64 w xv X) (hd : SeesG encP w dv D) (hc : SeesG encM w cv L) (hp : SeesG encB w pv P) :
    Calls Tryz.prog 18 #[.agg #[.int .i64 W, .int .i64 H, xv, .int .i64 b, .int .i64 m, .int .i64 rn, dv, .int .i64 n, .int .i64 f, cv, pv, jv, .int .i64 dy, .int .i64 gv, .int .i64 ea]] w fun e w' => e = .returned (.bool (decide (0 ≤ left W H X b m rn D n f L P))) ∧ w.grownBy w' none := by
  obtain ⟨xa, xn, xc, rfl, HXN⟩ := hx.shape
  obtain ⟨da, dn, dc, rfl, HDN⟩ := hd.shape
  obtain ⟨ca, cn, cc, rfl, HCN⟩ := hc.shape
  obtain ⟨pa, pn, pc, rfl, HPN⟩ := hp.shape
  have g0 := World.grownBy_alloc w (.cells #[.int .i64 W, .int .i64 H, .slice xa xn xc, .int .i64 b, .int .i64 m, .int .i64 rn, .slice da dn dc, .int .i64 n, .int .i64 f, .slice ca cn cc, .slice pa pn pc, jv, .int .i64 dy, .int .i64 gv, .int .i64 ea] 45 (0, 0)) (none : Option Nat)
  have B0 := Lib.hid (box_new w #[.int .i64 W, .int .i64 H, .slice xa xn xc, .int .i64 b, .int .i64 m, .int .i64 rn, .slice da dn dc, .int .i64 n, .int .i64 f, .slice ca cn cc, .slice pa pn pc, jv, .int .i64 dy, .int .i64 gv, .int .i64 ea] 45)
  have HC := Lib.hid (iCan_any _ W H b m rn n f _ _ _ _ X D L P hm hrn (hx.grown g0) (hd.grown g0) (hc.grown g0) (hp.grown g0))
  have HG := Lib.hid g0
  have c0 : (w.alloc (.cells #[.int .i64 W, .int .i64 H, .slice xa xn xc, .int .i64 b, .int .i64 m, .int .i64 rn, .slice da dn dc, .int .i64 n, .int .i64 f, .slice ca cn cc, .slice pa pn pc, jv, .int .i64 dy, .int .i64 gv, .int .i64 ea] 45 (0, 0))).cell? ⟨w.heap.size, 0, none⟩ = some (.int .i64 W) := B0.out.cell 0
  have c1 : (w.alloc (.cells #[.int .i64 W, .int .i64 H, .slice xa xn xc, .int .i64 b, .int .i64 m, .int .i64 rn, .slice da dn dc, .int .i64 n, .int .i64 f, .slice ca cn cc, .slice pa pn pc, jv, .int .i64 dy, .int .i64 gv, .int .i64 ea] 45 (0, 0))).cell? ⟨w.heap.size, 1, none⟩ = some (.int .i64 H) := B0.out.cell 1
  have c2 : (w.alloc (.cells #[.int .i64 W, .int .i64 H, .slice xa xn xc, .int .i64 b, .int .i64 m, .int .i64 rn, .slice da dn dc, .int .i64 n, .int .i64 f, .slice ca cn cc, .slice pa pn pc, jv, .int .i64 dy, .int .i64 gv, .int .i64 ea] 45 (0, 0))).cell? ⟨w.heap.size, 2, none⟩ = some (.slice xa xn xc) := B0.out.cell 2
  have c3 : (w.alloc (.cells #[.int .i64 W, .int .i64 H, .slice xa xn xc, .int .i64 b, .int .i64 m, .int .i64 rn, .slice da dn dc, .int .i64 n, .int .i64 f, .slice ca cn cc, .slice pa pn pc, jv, .int .i64 dy, .int .i64 gv, .int .i64 ea] 45 (0, 0))).cell? ⟨w.heap.size, 3, none⟩ = some (.int .i64 b) := B0.out.cell 3
  have c4 : (w.alloc (.cells #[.int .i64 W, .int .i64 H, .slice xa xn xc, .int .i64 b, .int .i64 m, .int .i64 rn, .slice da dn dc, .int .i64 n, .int .i64 f, .slice ca cn cc, .slice pa pn pc, jv, .int .i64 dy, .int .i64 gv, .int .i64 ea] 45 (0, 0))).cell? ⟨w.heap.size, 4, none⟩ = some (.int .i64 m) := B0.out.cell 4
  have c5 : (w.alloc (.cells #[.int .i64 W, .int .i64 H, .slice xa xn xc, .int .i64 b, .int .i64 m, .int .i64 rn, .slice da dn dc, .int .i64 n, .int .i64 f, .slice ca cn cc, .slice pa pn pc, jv, .int .i64 dy, .int .i64 gv, .int .i64 ea] 45 (0, 0))).cell? ⟨w.heap.size, 5, none⟩ = some (.int .i64 rn) := B0.out.cell 5
  have c6 : (w.alloc (.cells #[.int .i64 W, .int .i64 H, .slice xa xn xc, .int .i64 b, .int .i64 m, .int .i64 rn, .slice da dn dc, .int .i64 n, .int .i64 f, .slice ca cn cc, .slice pa pn pc, jv, .int .i64 dy, .int .i64 gv, .int .i64 ea] 45 (0, 0))).cell? ⟨w.heap.size, 6, none⟩ = some (.slice da dn dc) := B0.out.cell 6
  have c7 : (w.alloc (.cells #[.int .i64 W, .int .i64 H, .slice xa xn xc, .int .i64 b, .int .i64 m, .int .i64 rn, .slice da dn dc, .int .i64 n, .int .i64 f, .slice ca cn cc, .slice pa pn pc, jv, .int .i64 dy, .int .i64 gv, .int .i64 ea] 45 (0, 0))).cell? ⟨w.heap.size, 7, none⟩ = some (.int .i64 n) := B0.out.cell 7
  have c8 : (w.alloc (.cells #[.int .i64 W, .int .i64 H, .slice xa xn xc, .int .i64 b, .int .i64 m, .int .i64 rn, .slice da dn dc, .int .i64 n, .int .i64 f, .slice ca cn cc, .slice pa pn pc, jv, .int .i64 dy, .int .i64 gv, .int .i64 ea] 45 (0, 0))).cell? ⟨w.heap.size, 8, none⟩ = some (.int .i64 f) := B0.out.cell 8
  have c9 : (w.alloc (.cells #[.int .i64 W, .int .i64 H, .slice xa xn xc, .int .i64 b, .int .i64 m, .int .i64 rn, .slice da dn dc, .int .i64 n, .int .i64 f, .slice ca cn cc, .slice pa pn pc, jv, .int .i64 dy, .int .i64 gv, .int .i64 ea] 45 (0, 0))).cell? ⟨w.heap.size, 9, none⟩ = some (.slice ca cn cc) := B0.out.cell 9
  have c10 : (w.alloc (.cells #[.int .i64 W, .int .i64 H, .slice xa xn xc, .int .i64 b, .int .i64 m, .int .i64 rn, .slice da dn dc, .int .i64 n, .int .i64 f, .slice ca cn cc, .slice pa pn pc, jv, .int .i64 dy, .int .i64 gv, .int .i64 ea] 45 (0, 0))).cell? ⟨w.heap.size, 10, none⟩ = some (.slice pa pn pc) := B0.out.cell 10
  obtain ⟨z, hz⟩ : ∃ z, z = decide (0 ≤ left W H X b m rn D n f L P) := ⟨_, rfl⟩
  rw [← hz] at HC ⊢
  clear hm hrn hf hx hd hc hp g0 hz
  go_enter Tryz.func18, Tryz.ntmps18
  go_wp2_with fail
  refine HC.out.mono ?_
  rintro e w2 ⟨rfl, hg⟩
  have HG2 := Lib.hid (grownN_trans HG.out hg)
  clear hg
  go_wp2
  go_ret
  exact ⟨rfl, HG2.out⟩
end Go.Proofs.YtonalkamfgpokaaGreat.Crn

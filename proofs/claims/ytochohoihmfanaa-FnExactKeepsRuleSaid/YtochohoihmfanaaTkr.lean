/- Contracts of whether an expedition keeps its rule, of the program and of its model. -/
import Derived.Test.YtochohoihmfanaaTrekL
import Derived.Test.YtochohoihmfanaaStI
namespace Go.Proofs.Ytochohoihmfanaa.Tkr
open Go.RowKit Kit Rw Rg Stm

set_option maxRecDepth 20000 in
set_option maxHeartbeats 1000000 in
theorem sKeepsRule_any (w : World) (W H b m rn n f dy gv ea : Int) (xv dv cv pv jv : Value) (Q : List Bool) (hm : (Lit.int .i64 m).wf = true) (hn : (Lit.int .i64 rn).wf = true) (hp : SeesG encB w pv Q) :
    Calls Try.prog 51 #[.agg #[.int .i64 W, .int .i64 H, xv, .int .i64 b, .int .i64 m, .int .i64 rn, dv, .int .i64 n, .int .i64 f, cv, pv, jv, .int .i64 dy, .int .i64 gv, .int .i64 ea]] w fun e w' => e = .returned (.bool (keeps m rn Q)) ∧ w.grownBy w' none := by
  obtain ⟨pa, pn, pc, rfl, HPN⟩ := hp.shape
  have g0 := World.grownBy_alloc w (.cells #[.int .i64 W, .int .i64 H, xv, .int .i64 b, .int .i64 m, .int .i64 rn, dv, .int .i64 n, .int .i64 f, cv, .slice pa pn pc, jv, .int .i64 dy, .int .i64 gv, .int .i64 ea] 67 (0, 0)) (none : Option Nat)
  have B0 := Lib.hid (box_new w #[.int .i64 W, .int .i64 H, xv, .int .i64 b, .int .i64 m, .int .i64 rn, dv, .int .i64 n, .int .i64 f, cv, .slice pa pn pc, jv, .int .i64 dy, .int .i64 gv, .int .i64 ea] 67)
  have HC := Lib.hid (StormS.sKeeps_any _ m rn hm hn _ Q (hp.grown g0))
  have HG := Lib.hid g0
  have c4 : (w.alloc (.cells #[.int .i64 W, .int .i64 H, xv, .int .i64 b, .int .i64 m, .int .i64 rn, dv, .int .i64 n, .int .i64 f, cv, .slice pa pn pc, jv, .int .i64 dy, .int .i64 gv, .int .i64 ea] 67 (0, 0))).cell? ⟨w.heap.size, 4, none⟩ = some (.int .i64 m) := B0.out.cell 4
  have c5 : (w.alloc (.cells #[.int .i64 W, .int .i64 H, xv, .int .i64 b, .int .i64 m, .int .i64 rn, dv, .int .i64 n, .int .i64 f, cv, .slice pa pn pc, jv, .int .i64 dy, .int .i64 gv, .int .i64 ea] 67 (0, 0))).cell? ⟨w.heap.size, 5, none⟩ = some (.int .i64 rn) := B0.out.cell 5
  have c10 : (w.alloc (.cells #[.int .i64 W, .int .i64 H, xv, .int .i64 b, .int .i64 m, .int .i64 rn, dv, .int .i64 n, .int .i64 f, cv, .slice pa pn pc, jv, .int .i64 dy, .int .i64 gv, .int .i64 ea] 67 (0, 0))).cell? ⟨w.heap.size, 10, none⟩ = some (.slice pa pn pc) := B0.out.cell 10
  obtain ⟨z, hz⟩ : ∃ z, z = keeps m rn Q := ⟨_, rfl⟩
  rw [← hz] at HC ⊢
  clear hm hn hp g0 hz
  go_enter Try.func51, Try.ntmps51
  go_wp2_with fail
  refine HC.out.mono ?_
  rintro e w2 ⟨rfl, hg⟩
  have HG2 := Lib.hid (grownN_trans HG.out hg)
  clear hg
  go_wp2
  go_ret
  exact ⟨rfl, HG2.out⟩

set_option maxRecDepth 20000 in
set_option maxHeartbeats 1000000 in
theorem iKeepsRule_any (w : World) (W H b m rn n f dy gv ea : Int) (xv dv cv pv jv : Value) (Q : List Bool) (hm : (Lit.int .i64 m).wf = true) (hn : (Lit.int .i64 rn).wf = true) (hp : SeesG encB w pv Q) :
    Calls Try.prog 52 #[.agg #[.int .i64 W, .int .i64 H, xv, .int .i64 b, .int .i64 m, .int .i64 rn, dv, .int .i64 n, .int .i64 f, cv, pv, jv, .int .i64 dy, .int .i64 gv, .int .i64 ea]] w fun e w' => e = .returned (.bool (keeps m rn Q)) ∧ w.grownBy w' none := by
  obtain ⟨pa, pn, pc, rfl, HPN⟩ := hp.shape
  have g0 := World.grownBy_alloc w (.cells #[.int .i64 W, .int .i64 H, xv, .int .i64 b, .int .i64 m, .int .i64 rn, dv, .int .i64 n, .int .i64 f, cv, .slice pa pn pc, jv, .int .i64 dy, .int .i64 gv, .int .i64 ea] 67 (0, 0)) (none : Option Nat)
  have B0 := Lib.hid (box_new w #[.int .i64 W, .int .i64 H, xv, .int .i64 b, .int .i64 m, .int .i64 rn, dv, .int .i64 n, .int .i64 f, cv, .slice pa pn pc, jv, .int .i64 dy, .int .i64 gv, .int .i64 ea] 67)
  have HC := Lib.hid (StI.iKeeps_any _ m rn hm hn _ Q (hp.grown g0))
  have HG := Lib.hid g0
  have c4 : (w.alloc (.cells #[.int .i64 W, .int .i64 H, xv, .int .i64 b, .int .i64 m, .int .i64 rn, dv, .int .i64 n, .int .i64 f, cv, .slice pa pn pc, jv, .int .i64 dy, .int .i64 gv, .int .i64 ea] 67 (0, 0))).cell? ⟨w.heap.size, 4, none⟩ = some (.int .i64 m) := B0.out.cell 4
  have c5 : (w.alloc (.cells #[.int .i64 W, .int .i64 H, xv, .int .i64 b, .int .i64 m, .int .i64 rn, dv, .int .i64 n, .int .i64 f, cv, .slice pa pn pc, jv, .int .i64 dy, .int .i64 gv, .int .i64 ea] 67 (0, 0))).cell? ⟨w.heap.size, 5, none⟩ = some (.int .i64 rn) := B0.out.cell 5
  have c10 : (w.alloc (.cells #[.int .i64 W, .int .i64 H, xv, .int .i64 b, .int .i64 m, .int .i64 rn, dv, .int .i64 n, .int .i64 f, cv, .slice pa pn pc, jv, .int .i64 dy, .int .i64 gv, .int .i64 ea] 67 (0, 0))).cell? ⟨w.heap.size, 10, none⟩ = some (.slice pa pn pc) := B0.out.cell 10
  obtain ⟨z, hz⟩ : ∃ z, z = keeps m rn Q := ⟨_, rfl⟩
  rw [← hz] at HC ⊢
  clear hm hn hp g0 hz
  go_enter Try.func52, Try.ntmps52
  go_wp2_with fail
  refine HC.out.mono ?_
  rintro e w2 ⟨rfl, hg⟩
  have HG2 := Lib.hid (grownN_trans HG.out hg)
  clear hg
  go_wp2
  go_ret
  exact ⟨rfl, HG2.out⟩

end Go.Proofs.Ytochohoihmfanaa.Tkr

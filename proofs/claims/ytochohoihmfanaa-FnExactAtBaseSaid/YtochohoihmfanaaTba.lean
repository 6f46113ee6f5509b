/- Contracts of whether an expedition is at its base, of the program and of its model. -/
import Derived.Test.YtochohoihmfanaaTrekL
namespace Go.Proofs.Ytochohoihmfanaa.Tba
open Go.RowKit Kit Rw Rg

set_option maxRecDepth 20000 in
set_option maxHeartbeats 1000000 in
theorem sAtBase_any (w : World) (W H b m rn n f dy gv ea : Int) (xv dv cv pv jv : Value) :
    Calls Try.prog 43 #[.agg #[.int .i64 W, .int .i64 H, xv, .int .i64 b, .int .i64 m, .int .i64 rn, dv, .int .i64 n, .int .i64 f, cv, pv, jv, .int .i64 dy, .int .i64 gv, .int .i64 ea]] w fun e w' => e = .returned (.bool (n == b)) ∧ w.grownBy w' none := by
  have HG := Lib.hid (World.grownBy_alloc w (.cells #[.int .i64 W, .int .i64 H, xv, .int .i64 b, .int .i64 m, .int .i64 rn, dv, .int .i64 n, .int .i64 f, cv, pv, jv, .int .i64 dy, .int .i64 gv, .int .i64 ea] 67 (0, 0)) none)
  go_enter Try.func43, Try.ntmps43
  go_wp2
  go_ret
  exact ⟨rfl, HG.out⟩

set_option maxRecDepth 20000 in
set_option maxHeartbeats 1000000 in
theorem iAtBase_any (w : World) (W H b m rn n f dy gv ea : Int) (xv dv cv pv jv : Value) :
    Calls Try.prog 45 #[.agg #[.int .i64 W, .int .i64 H, xv, .int .i64 b, .int .i64 m, .int .i64 rn, dv, .int .i64 n, .int .i64 f, cv, pv, jv, .int .i64 dy, .int .i64 gv, .int .i64 ea]] w fun e w' => e = .returned (.bool (n == b)) ∧ w.grownBy w' none := by
  have HG := Lib.hid (World.grownBy_alloc w (.cells #[.int .i64 W, .int .i64 H, xv, .int .i64 b, .int .i64 m, .int .i64 rn, dv, .int .i64 n, .int .i64 f, cv, pv, jv, .int .i64 dy, .int .i64 gv, .int .i64 ea] 67 (0, 0)) none)
  go_enter Try.func45, Try.ntmps45
  go_wp2
  go_ret
  exact ⟨rfl, HG.out⟩

end Go.Proofs.Ytochohoihmfanaa.Tba

/- Contracts of the program's IsLand, IsCell and IsOpen. -/
import Derived.Test.YtochohoihmfanaaMBase
import Derived.Test.YtochohoihmfanaaMBase
import Derived.Test.YtochohoihmfanaaMBase
import Derived.IntWalk
import Derived.Deep.RegionWith
namespace Go.Proofs.Ytochohoihmfanaa.LandI
open Go.RowKit Kit Rw Ld Md

theorem inRange_yes {n l h : Int} (w : World) (hd : l ≤ n ∧ n ≤ h) :
    Calls Try.prog 58 #[.int .i64 n, .int .i64 l, .int .i64 h] w fun e w' => e = .returned (.bool true) ∧ w = w' := by
  have := inRange_any n l h w; rwa [decide_eq_true hd] at this
theorem inRange_no {n l h : Int} (w : World) (hd : ¬ (l ≤ n ∧ n ≤ h)) :
    Calls Try.prog 58 #[.int .i64 n, .int .i64 l, .int .i64 h] w fun e w' => e = .returned (.bool false) ∧ w = w' := by
  have := inRange_any n l h w; rwa [decide_eq_false hd] at this

end Go.Proofs.Ytochohoihmfanaa.LandI

/- The facts of the whole program that the law SafeTargets wants, by the kernel. -/
import Derived.Deep.RegionHeld3
import Derived.Test.YtonalkamfgpokaaGreatRows
import Derived.Test.YtonalkamfgpokaaGreatKeyM
import Derived.Test.YtonalkamfgpokaaGreatKeyL
import Derived.WalkKit
import Derived.ProofKit
import Derived.OpenShut
import Derived.ShutString
import Derived.ChangeOld
import Derived.Below
import Derived.Deep.DeepHandedRow
import Derived.Deep.DeepWitnessRowRef
import Derived.Lib.LaidTab
namespace Go.Proofs.YtonalkamfgpokaaGreat.fnExactSafeTargets
open Go.ChangeShapes Go.WideShapes Go.ChangeAt Go.RowKit
set_option maxRecDepth 100000 in
theorem closed : joinedFacts Tryz.pinned.checked.prog 5 Tryz.f5 (OpenSpec.ofChange Rows.fnExactSafeTargetsSpec).bare Rows.fnExactSafeTargetsRow = true := by
  unfold joinedFacts
  rw [key_enter, key_lifts]
  kernel_rfl

end Go.Proofs.YtonalkamfgpokaaGreat.fnExactSafeTargets

/- What the law FnCrew calls, over two crews: contracts. -/
import Derived.Test.YtlfhaanpfjfmcaaCrE
import Derived.Test.YtlfhaanpfjfmcaaCrL
import Derived.Test.YtlfhaanpfjfmcaaCrI
import Derived.Test.YtlfhaanpfjfmcaaCrH
import Derived.Test.YtlfhaanpfjfmcaaSilS
import Derived.Test.YtlfhaanpfjfmcaaHas
namespace Go.Proofs.Ytlfhaanpfjfmcaa.CrQ
open Go.RowKit Kit Rw Rg Inf Crw CrI CrH Draw Sil

structure TW (w wx : World) (v : Value) (L : List Mem) (u : Value) (X : List Mem) : Prop where
  grown : w.grownBy wx none
  l : SeesG encM wx v L
  x : SeesG encM wx u X
section
variable {w wx wy : World} {v u y : Value} {L X Y : List Mem}
theorem TW.on (h : TW w wx v L u X) (hg : wx.grownBy wy none) : TW w wy v L u X := ⟨grownN_trans h.grown hg, h.l.grown hg, h.x.grown hg⟩
theorem needQ (h : TW w wx v L u X) (hy : SeesG encM wx y Y) : Calls Try.prog 13 #[y] wx fun e w' => e = .returned (.int .i64 (needOf Y)) ∧ TW w w' v L u X :=
  (iNeedOf_any wx y Y hy).mono fun _ _ q => ⟨q.1, h.on q.2⟩
theorem capQ (h : TW w wx v L u X) (hy : SeesG encM wx y Y) : Calls Try.prog 16 #[y] wx fun e w' => e = .returned (.int .i64 (capOf Y)) ∧ TW w w' v L u X :=
  (iCapOf_any wx y Y hy).mono fun _ _ q => ⟨q.1, h.on q.2⟩
theorem crewQ (h : TW w wx v L u X) (hy : SeesG encM wx y Y) : Calls Try.prog 17 #[y] wx fun e w' => e = .returned (.bool (areCrew Y)) ∧ TW w w' v L u X :=
  (iAreCrew_any wx y Y hy).mono fun _ _ q => ⟨q.1, h.on q.2⟩
theorem wellQ (h : TW w wx v L u X) (hy : SeesG encM wx y Y) (hn : Y.length ≤ 1000000000) : Calls Try.prog 15 #[y] wx fun e w' => ∃ r, e = .returned r ∧ Sees .i64 w' r (healthy Y) ∧ TW w w' v L u X :=
  (iHealthy_any wx y Y hy hn).mono fun _ _ ⟨r, q1, q2, q3⟩ => ⟨r, q1, q2.sees, h.on q3⟩
end
end Go.Proofs.Ytlfhaanpfjfmcaa.CrQ

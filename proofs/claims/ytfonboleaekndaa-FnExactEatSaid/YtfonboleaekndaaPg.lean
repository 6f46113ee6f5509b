/- Contracts of Eat in the form that the exact law uses. -/
import Derived.Test.YtfonboleaekndaaPf
namespace Go.Proofs.Ytfonboleaekndaa.Pg
open Go.RowKit Kit Rw Rg Crw Four PartyL Pc Pa Pd Pe Pf Mn

theorem sEatL (w : World) (n f : Int) (cv pv : Value) (L : List Mem) (P : List Bool) (hf : (Lit.int .i64 f).wf = true) (hc : SeesG encM w cv L) (hp : SeesG encB w pv P) (hL : L.length ≤ 1000000000) (hP : P.length ≤ 1000000000) :
    Calls Try.prog 33 #[.agg #[.int .i64 n, .int .i64 f, cv, pv]] w fun e w' => ∃ u t, e = .returned (.tuple #[.agg #[.int .i64 n, .int .i64 (eatF L f), u, t], .bool (eatB L f)]) ∧ OwnG encM 102 w' w.heap.size u L ∧ OwnG encB 4 w' w.heap.size t P ∧ Apart t u ∧ w.grownBy w' none :=
  (sEat_any w n f cv pv L P hf hc hp hL hP).mono fun _ _ ⟨u, t, h, ho, ht, ha, hg⟩ => ⟨u, t, h, ho, ht, ha.symm, hg⟩
theorem iEatL (w : World) (n f : Int) (cv pv : Value) (L : List Mem) (P : List Bool) (hf : (Lit.int .i64 f).wf = true) (hc : SeesG encM w cv L) (hp : SeesG encB w pv P) (hL : L.length ≤ 1000000000) (hP : P.length ≤ 1000000000) :
    Calls Try.prog 34 #[.agg #[.int .i64 n, .int .i64 f, cv, pv]] w fun e w' => ∃ u t, e = .returned (.tuple #[.agg #[.int .i64 n, .int .i64 (eatF L f), u, t], .bool (eatB L f)]) ∧ OwnG encM 102 w' w.heap.size u L ∧ OwnG encB 4 w' w.heap.size t P ∧ Apart t u ∧ w.grownBy w' none :=
  (iEat_any w n f cv pv L P hf hc hp hL hP).mono fun _ _ ⟨u, t, h, ho, ht, ha, hg⟩ => ⟨u, t, h, ho, ht, ha.symm, hg⟩
end Go.Proofs.Ytfonboleaekndaa.Pg

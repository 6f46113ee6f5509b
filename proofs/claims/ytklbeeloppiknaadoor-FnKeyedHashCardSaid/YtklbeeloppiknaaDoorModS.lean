/- The model's Mod as a quiet call. -/
import Derived.StillTailTactics
import Derived.IntWalk
import Derived.Test.YtklbeeloppiknaaDoorMod
namespace Go.Proofs.YtklbeeloppiknaaDoor.Md
open Go.RowKit Kit Rw
theorem sMod_quiet (a b : Int) (w : World) (h : 1 ≤ b) (h' : b ≤ 1000000000000) :
    Calls Tryd.prog 11 #[.int .i64 a, .int .i64 b] w fun e w' => e = .returned (.int .i64 (a % b)) ∧ w' = w := (sMod_any a b w h h').mono fun _ _ ⟨x, y⟩ => ⟨x, y.symm⟩
end Go.Proofs.YtklbeeloppiknaaDoor.Md

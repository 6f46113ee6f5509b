/- Contracts of the program's Min and Max, for every two arguments. -/
import Derived.Test.YtochohoihmfanaaDoorMBase
import Derived.WalkKit
namespace Go.Proofs.YtochohoihmfanaaDoor.Mn
open Go.RowKit Kit Rw
def least (a b : Int) : Int := if b < a then b else a
theorem least_lt {a b : Int} (h : b < a) : least a b = b := by unfold least; rw [if_pos h]
theorem least_ge {a b : Int} (h : a ≤ b) : least a b = a := by unfold least; rw [if_neg (by omega)]

def most (a b : Int) : Int := if a < b then b else a
theorem most_gt {a b : Int} (h : a < b) : most a b = b := by unfold most; rw [if_pos h]
theorem most_le {a b : Int} (h : b ≤ a) : most a b = a := by unfold most; rw [if_neg (by omega)]
end Go.Proofs.YtochohoihmfanaaDoor.Mn

/- Contracts of DaysOfFood, RoomFor and IsParty of the program and of their models. -/
import Derived.Test.YtochohoihmfanaaFour
import Derived.Test.YtochohoihmfanaaCrS
import Derived.Test.YtochohoihmfanaaCrI
import Derived.Test.YtochohoihmfanaaLandS
import Derived.Test.YtochohoihmfanaaLandI
import Derived.Test.YtochohoihmfanaaDepI
import Derived.IntWalk
import Derived.Deep.RegionHeld3
namespace Go.Proofs.Ytochohoihmfanaa.Pa
open Go.RowKit Kit Rw Rg Crw Four Md Ld Mn

def daysOf (L : List Mem) (f : Int) : Int := if areCrew L = true ∧ 0 ≤ f then f / needOf L else 0
def roomOf (L : List Mem) (f : Int) : Int := if f < 0 ∨ capOf L ≤ f then 0 else capOf L - f
def isParty (W H : Int) (X : List Int) (n f : Int) (L : List Mem) (P : List Bool) : Bool := isOpen W H X n && (areCrew L && (decide (0 ≤ f ∧ f ≤ 10000) && decide (P.length ≤ 10)))
theorem daysOf_no {L : List Mem} {f : Int} (h : areCrew L = false) : daysOf L f = 0 := by unfold daysOf; rw [h]; simp
theorem daysOf_neg {L : List Mem} {f : Int} (h : f < 0) : daysOf L f = 0 := by unfold daysOf; exact if_neg (fun h' => by omega)
theorem daysOf_yes {L : List Mem} {f : Int} (h : areCrew L = true) (hf : 0 ≤ f) : daysOf L f = f / needOf L := if_pos ⟨h, hf⟩
theorem quo_pos {f q : Int} (h0 : 0 ≤ f) (h1 : f ≤ 9223372036854775807) (hq : 0 < q) : f.tdiv q = f / q ∧ 0 ≤ f / q ∧ f / q ≤ f := by
  refine ⟨Int.tdiv_eq_ediv_of_nonneg h0, Int.ediv_nonneg h0 (by omega), ?_⟩
  exact Int.ediv_le_self _ h0
theorem wrap_quo {f q : Int} (h0 : 0 ≤ f) (h1 : f ≤ 9223372036854775807) (hq : 0 < q) : IntKind.i64.wrap (f.tdiv q) = f / q := by
  have := quo_pos h0 h1 hq
  rw [this.1]
  exact IntWalk.i64_in _ (by omega)

end Go.Proofs.Ytochohoihmfanaa.Pa
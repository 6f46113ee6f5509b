/- Contracts of the model's functions of chapter 6. -/
import Derived.Test.YtochohoihmfanaaDoorStF
import Derived.Test.YtochohoihmfanaaDoorRowD
import Derived.IntWalk
import Derived.Deep.RegionWith
import Derived.Deep.QuietTactic
import Derived.BigQuiet
namespace Go.Proofs.YtochohoihmfanaaDoor.StormS
open Go.RowKit Kit Rw Rg Stm Md

theorem two {w : World} {b : Nat} {x y : Value} {T : TypeId} (h : Box w b #[x, y] T) : w.cell? ⟨b, 0, none⟩ = some x ∧ w.cell? ⟨b, 1, none⟩ = some y := ⟨h.cell 0, h.cell 1⟩
def mx (a b : Int) : Int := if a < b then b else a
theorem wrap_after {l n : Int} (h0 : 0 ≤ l) (h1 : l ≤ 9223372036854775807) (hn : 1 ≤ n ∧ n ≤ 10) : ∃ y, IntKind.i64.wrap (l + 1) = y ∧ IntKind.i64.wrap (y - n) = l + 1 - n := by
  by_cases h : l ≤ 9223372036854775806
  · exact ⟨l + 1, IntWalk.i64_in _ (by omega), IntWalk.i64_in _ (by omega)⟩
  · have : l = 9223372036854775807 := by omega
    subst this
    refine ⟨-9223372036854775808, by decide, ?_⟩
    obtain ⟨h2, h3⟩ := hn
    have : n = 1 ∨ n = 2 ∨ n = 3 ∨ n = 4 ∨ n = 5 ∨ n = 6 ∨ n = 7 ∨ n = 8 ∨ n = 9 ∨ n = 10 := by omega
    rcases this with rfl | rfl | rfl | rfl | rfl | rfl | rfl | rfl | rfl | rfl <;> decide
end Go.Proofs.YtochohoihmfanaaDoor.StormS

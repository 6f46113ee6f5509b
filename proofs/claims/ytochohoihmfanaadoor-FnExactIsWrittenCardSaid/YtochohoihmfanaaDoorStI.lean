/- Contracts of the program's functions of chapter 6: its ring of days in memory, and what is asked of it. -/
import Derived.Test.YtochohoihmfanaaDoorRowE
import Derived.Test.YtochohoihmfanaaDoorRing
import Derived.Test.YtochohoihmfanaaDoorStormS
import Derived.IntWalk
import Derived.RegionTactic
import Derived.ChangeAlike
import Derived.BigRegion
import Derived.Deep.QuietTactic
import Derived.BigQuiet
namespace Go.Proofs.YtochohoihmfanaaDoor.StI
open Go.RowKit Kit Rw Rg Stm Md StormS

theorem four {w : World} {b : Nat} {x y z u : Value} {T : TypeId} (h : Box w b #[x, y, z, u] T) : w.cell? ⟨b, 0, none⟩ = some x ∧ w.cell? ⟨b, 1, none⟩ = some y ∧ w.cell? ⟨b, 2, none⟩ = some z ∧ w.cell? ⟨b, 3, none⟩ = some u := ⟨h.cell 0, h.cell 1, h.cell 2, h.cell 3⟩
theorem rem_nat {n t : Nat} (ht : t < n) (hn : n ≤ 10) : IntKind.i64.wrap (((t : Int) + 1).tmod (n : Int)) = (((t + 1) % n : Nat) : Int) := by
  rw [show (t : Int) + 1 = ((t + 1 : Nat) : Int) by omega, ← Int.ofNat_tmod (t + 1) n]
  have h := Nat.mod_lt (t + 1) (show 0 < n by omega)
  obtain ⟨q, hq⟩ : ∃ q, q = (t + 1) % n := ⟨_, rfl⟩
  rw [← hq] at h ⊢
  exact IntWalk.i64_in _ (by omega)

theorem info_bool : (Tryd.prog.info? 4).map (fun i => (i.zero, i.size, i.bytes)) = some (some (.bool false), 1, 1) := by kernel_rfl

end Go.Proofs.YtochohoihmfanaaDoor.StI

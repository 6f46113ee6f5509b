/- Contracts of PickUp of the program and of its model. -/
import Derived.Test.YtochohoihmfanaaPf
namespace Go.Proofs.Ytochohoihmfanaa.Ph
open Go.RowKit Kit Rw Rg Crw Four PartyL Pc Pa Pd Pe Mn

def pickK (L : List Mem) (f m : Int) : Int := most 0 (least m (roomOf L f))
def pickF (L : List Mem) (f m : Int) : Int := f + pickK L f m
theorem pick_fits (L : List Mem) {f : Int} (hf : -9223372036854775808 ≤ f ∧ f ≤ 9223372036854775807) (m : Int) : -9223372036854775808 ≤ f + pickK L f m ∧ f + pickK L f m ≤ 9223372036854775807 := by
  have hc := capOf_bound L
  have hr : 0 ≤ roomOf L f ∧ (roomOf L f = 0 ∨ f + roomOf L f = capOf L) := by
    unfold roomOf
    by_cases h : f < 0 ∨ capOf L ≤ f
    · rw [if_pos h]; omega
    · rw [if_neg h]; omega
  have hk : 0 ≤ pickK L f m ∧ pickK L f m ≤ roomOf L f := by
    unfold pickK
    generalize roomOf L f = r at *
    have hl : least m r ≤ r := by unfold least; by_cases h : r < m <;> simp [h] <;> omega
    unfold most
    by_cases h : 0 < least m r
    · rw [if_pos h]; omega
    · rw [if_neg h]; omega
  omega
theorem sMin2 (a b : Int) (w : World) : Calls Try.prog 67 #[.int .i64 a, .int .i64 b] w fun e w' => e = .returned (.int .i64 (least a b)) ∧ w.grownBy w' none := by
  by_cases h : b < a
  · have HR : Hid (least a b = b) := if_pos h
    go_enter Try.func67, Try.ntmps67
    go_wp2
    go_ret
    exact ⟨ret_i64 HR.out.symm, World.grownBy.refl _ _⟩
  · have HR : Hid (least a b = a) := if_neg h
    go_enter Try.func67, Try.ntmps67
    go_wp2
    go_ret
    exact ⟨ret_i64 HR.out.symm, World.grownBy.refl _ _⟩
theorem sMax2 (a b : Int) (w : World) : Calls Try.prog 120 #[.int .i64 a, .int .i64 b] w fun e w' => e = .returned (.int .i64 (most a b)) ∧ w.grownBy w' none := by
  by_cases h : a < b
  · have HR : Hid (most a b = b) := if_pos h
    go_enter Try.func120, Try.ntmps120
    go_wp2
    go_ret
    exact ⟨ret_i64 HR.out.symm, World.grownBy.refl _ _⟩
  · have HR : Hid (most a b = a) := if_neg h
    go_enter Try.func120, Try.ntmps120
    go_wp2
    go_ret
    exact ⟨ret_i64 HR.out.symm, World.grownBy.refl _ _⟩

end Go.Proofs.Ytochohoihmfanaa.Ph

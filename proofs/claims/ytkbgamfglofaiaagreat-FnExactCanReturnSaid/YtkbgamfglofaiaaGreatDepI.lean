/- Contracts of the program's and of the model's FoodAt and TotalFood. -/
import Derived.Test.YtkbgamfglofaiaaGreatG15
import Derived.Test.YtkbgamfglofaiaaGreatRowM
import Derived.Test.YtkbgamfglofaiaaGreatG11
import Derived.IntWalk
namespace Go.Proofs.YtkbgamfglofaiaaGreat.DepI
open Go.RowKit Kit Rw Rg Dep Mn

set_option maxRecDepth 20000 in
set_option maxHeartbeats 1000000 in
theorem sFoodAt_any (w : World) (v : Value) (L : List (Int × Int)) (c : Int) (hv : SeesG encP w v L) :
    Calls Tryz.prog 77 #[v, .int .i64 c] w fun e w' => e = .returned (.int .i64 (foodAt L c)) ∧ w.grownBy w' none := by
  have hl := hv.len
  have HV := Lib.hid hv
  obtain ⟨a, cap, rfl, _⟩ := hv
  go_enter Tryz.func77, Tryz.ntmps77
  go_wp2
  go_loopw [5] (fun i wr => ∃ j : Nat, j ≤ L.length ∧ i = .int .i64 j ∧ Hid (∀ k, k < j → (L.getD k dP).1 ≠ c) ∧ Hid (w.grownBy wr none)) (fun i _ => L.length - (intOf i).toNat)
  case atStart => exact ⟨0, Nat.zero_le _, rfl, fun k hk => absurd hk (Nat.not_lt_zero _), World.grownBy.refl _ _⟩
  case round =>
    obtain ⟨j, hj, rfl, HE, HG⟩ := hrel
    by_cases hlt : j < L.length
    · obtain ⟨b, o, rfl, _, _⟩ := HV.out.at_row hlt
      obtain ⟨x, hx⟩ : ∃ x, L.getD j (0, 0) = x := ⟨_, rfl⟩
      obtain ⟨d0, d1⟩ := atP_in HV.out HG.out hlt hx
      have HX := Lib.hid hx
      clear hx
      obtain ⟨xc, xf⟩ := x
      dsimp only at d0 d1
      by_cases hq : xc = c
      · have HR : Hid (foodAt L c = xf) := (foodAt_at hlt HE.out (by rw [show dP = (0, 0) from rfl, HX.out]; exact hq)).trans (by rw [show dP = (0, 0) from rfl, HX.out])
        subst hq
        go_wp2
        go_ret
        exact ⟨ret_i64 HR.out.symm, HG.out⟩
      · have HE2 : Hid (∀ k, k < j + 1 → (L.getD k dP).1 ≠ c) := fun k hk => by
          by_cases h : k = j
          · subst h; rw [show dP = (0, 0) from rfl, HX.out]; exact hq
          · exact HE.out k (by omega)
        go_wp2
        go_roundw
        case rel => exact ⟨j + 1, by omega, by go_num, HE2, HG⟩
        case measure => simp [intOf]; omega
    · have : j = L.length := by omega
      subst this
      have HR := Lib.hid (foodAt_none HE.out)
      go_wp2
      go_ret
      exact ⟨ret_i64 HR.out.symm, HG.out⟩

set_option maxRecDepth 20000 in
set_option maxHeartbeats 1000000 in
theorem iFoodAt_any (w : World) (v : Value) (L : List (Int × Int)) (c : Int) (hv : SeesG encP w v L) :
    Calls Tryz.prog 86 #[v, .int .i64 c] w fun e w' => e = .returned (.int .i64 (foodAt L c)) ∧ w.grownBy w' none := by
  have hl := hv.len
  have HV := Lib.hid hv
  obtain ⟨a, cap, rfl, _⟩ := hv
  go_enter Tryz.func86, Tryz.ntmps86
  go_wp2
  go_loopw [9] (fun i wr => ∃ j : Nat, j ≤ L.length ∧ i = .int .i64 j ∧ Hid (∀ k, k < j → (L.getD k dP).1 ≠ c) ∧ Hid (w.grownBy wr none)) (fun i _ => L.length - (intOf i).toNat)
  case atStart => exact ⟨0, Nat.zero_le _, rfl, fun k hk => absurd hk (Nat.not_lt_zero _), World.grownBy.refl _ _⟩
  case round =>
    rename_i wr
    obtain ⟨j, hj, rfl, HE, HG⟩ := hrel
    by_cases hlt : j < L.length
    · obtain ⟨b, o, rfl, _, _⟩ := HV.out.at_row hlt
      obtain ⟨x, hx⟩ : ∃ x, L.getD j (0, 0) = x := ⟨_, rfl⟩
      obtain ⟨d0, d1⟩ := atP_in HV.out HG.out hlt hx
      have HX := Lib.hid hx
      clear hx
      obtain ⟨xc, xf⟩ := x
      dsimp only at d0 d1
      have HG1 := Lib.hid (grownN_trans HG.out (World.grownBy_alloc wr (.cells #[.int .i64 xc, .int .i64 xf] 77 (0, 0)) none))
      by_cases hq : xc = c
      · have HR : Hid (foodAt L c = xf) := (foodAt_at hlt HE.out (by rw [show dP = (0, 0) from rfl, HX.out]; exact hq)).trans (by rw [show dP = (0, 0) from rfl, HX.out])
        subst hq
        go_wp2
        go_ret
        exact ⟨ret_i64 HR.out.symm, HG1.out⟩
      · have HE2 : Hid (∀ k, k < j + 1 → (L.getD k dP).1 ≠ c) := fun k hk => by
          by_cases h : k = j
          · subst h; rw [show dP = (0, 0) from rfl, HX.out]; exact hq
          · exact HE.out k (by omega)
        go_wp2
        go_roundw
        case rel => exact ⟨j + 1, by omega, by go_num, HE2, HG1⟩
        case measure => simp [intOf]; omega
    · have : j = L.length := by omega
      subst this
      have HR := Lib.hid (foodAt_none HE.out)
      go_wp2
      go_ret
      exact ⟨ret_i64 HR.out.symm, HG.out⟩

def smax (a b : Int) : Int := if a < b then b else a
theorem smax_any (a b : Int) (w : World) :
    Calls Tryz.prog 119 #[.int .i64 a, .int .i64 b] w fun e w' => e = .returned (.int .i64 (smax a b)) ∧ w = w' := by
  by_cases h : a < b
  · have hm : smax a b = b := if_pos h
    rw [hm]
    go_enter Tryz.func119, Tryz.ntmps119
    go_wp2
    go_ret
    exact ⟨rfl, rfl⟩
  · have hm : smax a b = a := if_neg h
    rw [hm]
    go_enter Tryz.func119, Tryz.ntmps119
    go_wp2
    go_ret
    exact ⟨rfl, rfl⟩
def smin (a b : Int) : Int := if b < a then b else a
theorem smin_any (a b : Int) (w : World) :
    Calls Tryz.prog 120 #[.int .i64 a, .int .i64 b] w fun e w' => e = .returned (.int .i64 (smin a b)) ∧ w = w' := by
  by_cases h : b < a
  · have hm : smin a b = b := if_pos h
    rw [hm]
    go_enter Tryz.func120, Tryz.ntmps120
    go_wp2
    go_ret
    exact ⟨rfl, rfl⟩
  · have hm : smin a b = a := if_neg h
    rw [hm]
    by_cases h2 : a < b
    · go_enter Tryz.func120, Tryz.ntmps120
      go_wp2
      go_ret
      exact ⟨rfl, rfl⟩
    · have h3 : a = b := by omega
      subst h3
      go_enter Tryz.func120, Tryz.ntmps120
      go_wp2
      go_ret
      exact ⟨rfl, rfl⟩
theorem s_cl (x : Int) : smax 0 (smin 10000 x) = cl x := by unfold smax smin cl; split <;> split <;> (try split) <;> (try split) <;> omega
theorem i_cl (x : Int) : most 0 (least x 10000) = cl x := by unfold most least cl; split <;> split <;> (try split) <;> (try split) <;> omega

end Go.Proofs.YtkbgamfglofaiaaGreat.DepI

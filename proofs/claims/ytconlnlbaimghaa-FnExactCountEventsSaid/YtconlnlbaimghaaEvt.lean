/- Contracts of how many events of a kind there are, of the program and of its model. -/
import Derived.Test.YtconlnlbaimghaaRowV
import Derived.IntWalk
import Derived.WalkKit
namespace Go.Proofs.Ytconlnlbaimghaa.Evt
open Go.RowKit Kit Rw Rg

def cnt (V : List Ev) (c : Int) : Nat → Int
  | 0 => 0
  | j + 1 => if (V.getD j zV).kd = c then cnt V c j + 1 else cnt V c j
theorem cnt_yes {V : List Ev} {c : Int} {j : Nat} (h : (V.getD j zV).kd = c) : cnt V c (j + 1) = cnt V c j + 1 := if_pos h
theorem cnt_no {V : List Ev} {c : Int} {j : Nat} (h : ¬ (V.getD j zV).kd = c) : cnt V c (j + 1) = cnt V c j := if_neg h
theorem cnt_bd (V : List Ev) (c : Int) : ∀ j, 0 ≤ cnt V c j ∧ cnt V c j ≤ j
  | 0 => ⟨Int.le_refl _, Int.le_refl _⟩
  | j + 1 => by have := cnt_bd V c j; unfold cnt; split <;> omega

set_option maxRecDepth 20000 in
set_option maxHeartbeats 1000000 in
theorem sCount_any (w : World) (v : Value) (V : List Ev) (c : Int) (hv : SeesG encV w v V) :
    Calls Try.prog 10 #[v, .int .i64 c] w fun e w' => e = .returned (.int .i64 (cnt V c V.length)) ∧ w.grownBy w' none := by
  have hl := hv.len
  have HV := Lib.hid hv
  obtain ⟨a, cap, rfl, _⟩ := hv
  go_enter Try.func10, Try.ntmps10
  go_wp2
  go_loopw [5, 6] (fun s i wr => ∃ j : Nat, j ≤ V.length ∧ i = .int .i64 j ∧ s = .int .i64 (cnt V c j) ∧ Hid (w.grownBy wr none)) (fun _ i _ => V.length - (intOf i).toNat)
  case atStart => exact ⟨0, Nat.zero_le _, rfl, rfl, World.grownBy.refl _ _⟩
  case round =>
    obtain ⟨j, hj, rfl, rfl, HG⟩ := hrel
    have hb := cnt_bd V c j
    obtain ⟨s, hs⟩ : ∃ s, s = cnt V c j := ⟨_, rfl⟩
    rw [← hs] at hb ⊢
    have HS := Lib.hid hs
    clear hs
    by_cases hlt : j < V.length
    · obtain ⟨b, o, rfl, _, _⟩ := HV.out.at_row hlt
      obtain ⟨x, hx⟩ : ∃ x, V.getD j zV = x := ⟨_, rfl⟩
      obtain ⟨d0, d1, d2⟩ := atV_in HV.out HG.out hlt hx
      have HX := Lib.hid hx
      clear hx
      obtain ⟨x0, x1, x2⟩ := x
      dsimp only at d0 d1 d2
      by_cases he : x0 = c
      · have HN : Hid (cnt V c (j + 1) = s + 1) := by show _ = _; rw [cnt_yes (by rw [HX.out]; exact he), HS.out]
        subst he
        go_wp2
        go_roundw
        case rel => exact ⟨j + 1, by omega, by go_num, by rw [HN.out], HG⟩
        case measure => simp [intOf]; omega
      · have HN : Hid (cnt V c (j + 1) = s) := by show _ = _; rw [cnt_no (by rw [HX.out]; exact he), HS.out]
        have heb : (x0 == c) = false := by simpa using he
        go_wp2
        go_roundw
        case rel => exact ⟨j + 1, by omega, by go_num, by rw [HN.out], HG⟩
        case measure => simp [intOf]; omega
    · have : j = V.length := by omega
      subst this
      go_wp2
      go_ret
      exact ⟨ret_i64 HS.out, HG.out⟩

set_option maxRecDepth 20000 in
set_option maxHeartbeats 1000000 in
theorem iCount_any (w : World) (v : Value) (V : List Ev) (c : Int) (hv : SeesG encV w v V) :
    Calls Try.prog 12 #[v, .int .i64 c] w fun e w' => e = .returned (.int .i64 (cnt V c V.length)) ∧ w.grownBy w' none := by
  have hl := hv.len
  have HV := Lib.hid hv
  obtain ⟨a, cap, rfl, _⟩ := hv
  go_enter Try.func12, Try.ntmps12
  go_wp2
  go_loopw [5, 10] (fun s i wr => ∃ j : Nat, j ≤ V.length ∧ i = .int .i64 j ∧ s = .int .i64 (cnt V c j) ∧ Hid (w.grownBy wr none)) (fun _ i _ => V.length - (intOf i).toNat)
  case atStart => exact ⟨0, Nat.zero_le _, rfl, rfl, World.grownBy.refl _ _⟩
  case round =>
    rename_i _ _ wr
    obtain ⟨j, hj, rfl, rfl, HG⟩ := hrel
    have hb := cnt_bd V c j
    obtain ⟨s, hs⟩ : ∃ s, s = cnt V c j := ⟨_, rfl⟩
    rw [← hs] at hb ⊢
    have HS := Lib.hid hs
    clear hs
    by_cases hlt : j < V.length
    · obtain ⟨b, o, rfl, _, _⟩ := HV.out.at_row hlt
      obtain ⟨x, hx⟩ : ∃ x, V.getD j zV = x := ⟨_, rfl⟩
      obtain ⟨d0, d1, d2⟩ := atV_in HV.out HG.out hlt hx
      have HX := Lib.hid hx
      clear hx
      obtain ⟨x0, x1, x2⟩ := x
      dsimp only at d0 d1 d2
      have HG2 := Lib.hid (grownN_trans HG.out (World.grownBy_alloc wr (.cells #[.int .i64 x0, .int .i64 x1, .bool x2] 58 (0, 0)) none))
      by_cases he : x0 = c
      · have HN : Hid (cnt V c (j + 1) = s + 1) := by show _ = _; rw [cnt_yes (by rw [HX.out]; exact he), HS.out]
        subst he
        go_wp2
        go_roundw
        case rel => exact ⟨j + 1, by omega, by go_num, by rw [HN.out], HG2⟩
        case measure => simp [intOf]; omega
      · have HN : Hid (cnt V c (j + 1) = s) := by show _ = _; rw [cnt_no (by rw [HX.out]; exact he), HS.out]
        have heb : (x0 == c) = false := by simpa using he
        go_wp2
        go_roundw
        case rel => exact ⟨j + 1, by omega, by go_num, by rw [HN.out], HG2⟩
        case measure => simp [intOf]; omega
    · have : j = V.length := by omega
      subst this
      go_wp2
      go_ret
      exact ⟨ret_i64 HS.out, HG.out⟩
end Go.Proofs.Ytconlnlbaimghaa.Evt

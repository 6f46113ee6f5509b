/- Contracts of EqualInts of the program (by way of slices.Equal) and of its model. -/
import Derived.Test.YtochohoihmfanaaLawsI
namespace Go.Proofs.Ytochohoihmfanaa.EqI
open Go.RowKit Kit Rw LawsI

set_option maxHeartbeats 400000 in
theorem slicesEqual_any (w : World) (u v : Value) (X Y : List Int) (hu : Sees .i64 w u X) (hv : Sees .i64 w v Y) :
    Calls Try.prog 135 #[u, v] w fun e w' => e = .returned (.bool (decide (X = Y))) ∧ w.grownBy w' none := by
  have hl := hu.len
  obtain ⟨a, cap, rfl, _, _, _, hwx, hcell⟩ := hu
  obtain ⟨a2, cap2, rfl, _, _, _, hwy, hcell2⟩ := hv
  have HC := Lib.hid hcell
  have HD := Lib.hid hcell2
  clear hcell hcell2 hwx hwy
  by_cases hxy : X.length = Y.length
  · have HXY := Lib.hid hxy
    go_enter Try.func135, Try.ntmps135
    go_wp2
    go_loopw [5, 13] (fun _ i wr => ∃ j : Nat, j ≤ Y.length ∧ i = .int .i64 j ∧ Hid (∀ m, m < j → X.getD m 0 = Y.getD m 0) ∧ Hid (w.grownBy wr none))
      (fun _ i _ => Y.length - (intOf i).toNat)
    case atStart => exact ⟨0, Nat.zero_le _, rfl, fun m hm => absurd hm (Nat.not_lt_zero _), World.grownBy.refl _ _⟩
    case round =>
      obtain ⟨j, hj, rfl, HE, HG1⟩ := hrel
      by_cases hlt : j < Y.length
      · rcases HC.out with hX | ⟨b, o, rfl, hc⟩
        · simp [hX] at hxy; omega
        rcases HD.out with hX | ⟨b2, o2, rfl, hc2⟩
        · simp [hX] at hlt
        have hcj : wr.cell? ⟨b, o + j, none⟩ = some (.int .i64 (X.getD j 0)) := HG1.out.cell (hc j (by omega)) (by simp)
        have hcj2 : wr.cell? ⟨b2, o2 + j, none⟩ = some (.int .i64 (Y.getD j 0)) := HG1.out.cell (hc2 j (by omega)) (by simp)
        clear hc hc2
        obtain ⟨x, hx⟩ : ∃ x, x = X.getD j 0 := ⟨_, rfl⟩
        obtain ⟨y, hy⟩ : ∃ y, y = Y.getD j 0 := ⟨_, rfl⟩
        rw [← hx] at hcj
        rw [← hy] at hcj2
        have HX := Lib.hid hx
        have HY := Lib.hid hy
        clear hx hy
        by_cases hne : x = y
        · go_wp2
          go_quiet (fail)
          go_wp2
          go_roundw
          case rel =>
            refine ⟨j + 1, by omega, by go_num, fun m hm => ?_, ?_⟩
            · by_cases h : m = j
              · subst h; rw [← HX.out, ← HY.out, hne]
              · exact HE.out m (by omega)
            · exact grown_drewN HG1.out _
          case measure => simp [intOf]; omega
        · go_wp2
          go_quiet (fail)
          go_wp2
          go_ret
          exact ⟨ret_bool (by symm; rw [decide_eq_false_iff_not]; intro h; exact hne (by rw [HX.out, HY.out, h])), grown_drewN HG1.out _⟩
      · go_wp2
        go_ret
        exact ⟨ret_bool (by symm; rw [decide_eq_true_iff]; exact list_same HXY.out (by have := HE.out; intro m hm; exact this m (by omega))), HG1.out⟩
  · go_enter Try.func135, Try.ntmps135
    go_wp2
    go_ret
    exact ⟨ret_bool (by symm; rw [decide_eq_false_iff_not]; intro h; exact hxy (by rw [h])), World.grownBy.refl _ _⟩

set_option maxHeartbeats 400000 in
theorem sEqualInts_any (w : World) (u v : Value) (X Y : List Int) (hu : Sees .i64 w u X) (hv : Sees .i64 w v Y) :
    Calls Try.prog 104 #[u, v] w fun e w' => e = .returned (.bool (decide (X = Y))) ∧ w.grownBy w' none := by
  have hl := hu.len
  obtain ⟨a, cap, rfl, _, _, _, hwx, hcell⟩ := hu
  obtain ⟨a2, cap2, rfl, _, _, _, hwy, hcell2⟩ := hv
  have HC := Lib.hid hcell
  have HD := Lib.hid hcell2
  clear hcell hcell2 hwx hwy
  by_cases hxy : X.length = Y.length
  · have HXY := Lib.hid hxy
    go_enter Try.func104, Try.ntmps104
    go_wp2
    go_loopw [5] (fun i wr => ∃ j : Nat, j ≤ Y.length ∧ i = .int .i64 j ∧ Hid (∀ m, m < j → X.getD m 0 = Y.getD m 0) ∧ Hid (w.grownBy wr none))
      (fun i _ => Y.length - (intOf i).toNat)
    case atStart => exact ⟨0, Nat.zero_le _, rfl, fun m hm => absurd hm (Nat.not_lt_zero _), World.grownBy.refl _ _⟩
    case round =>
      obtain ⟨j, hj, rfl, HE, HG1⟩ := hrel
      by_cases hlt : j < Y.length
      · rcases HC.out with hX | ⟨b, o, rfl, hc⟩
        · simp [hX] at hxy; omega
        rcases HD.out with hX | ⟨b2, o2, rfl, hc2⟩
        · simp [hX] at hlt
        have hcj : wr.cell? ⟨b, o + j, none⟩ = some (.int .i64 (X.getD j 0)) := HG1.out.cell (hc j (by omega)) (by simp)
        have hcj2 : wr.cell? ⟨b2, o2 + j, none⟩ = some (.int .i64 (Y.getD j 0)) := HG1.out.cell (hc2 j (by omega)) (by simp)
        clear hc hc2
        obtain ⟨x, hx⟩ : ∃ x, x = X.getD j 0 := ⟨_, rfl⟩
        obtain ⟨y, hy⟩ : ∃ y, y = Y.getD j 0 := ⟨_, rfl⟩
        rw [← hx] at hcj
        rw [← hy] at hcj2
        have HX := Lib.hid hx
        have HY := Lib.hid hy
        clear hx hy
        by_cases hne : x = y
        · go_wp2
          go_quiet (fail)
          go_wp2
          go_roundw
          case rel =>
            refine ⟨j + 1, by omega, by go_num, fun m hm => ?_, ?_⟩
            · by_cases h : m = j
              · subst h; rw [← HX.out, ← HY.out, hne]
              · exact HE.out m (by omega)
            · exact grown_drewN HG1.out _
          case measure => simp [intOf]; omega
        · go_wp2
          go_quiet (fail)
          go_wp2
          go_ret
          exact ⟨ret_bool (by symm; rw [decide_eq_false_iff_not]; intro h; exact hne (by rw [HX.out, HY.out, h])), grown_drewN HG1.out _⟩
      · go_wp2
        go_ret
        exact ⟨ret_bool (by symm; rw [decide_eq_true_iff]; exact list_same HXY.out (by have := HE.out; intro m hm; exact this m (by omega))), HG1.out⟩
  · go_enter Try.func104, Try.ntmps104
    go_wp2
    go_ret
    exact ⟨ret_bool (by symm; rw [decide_eq_false_iff_not]; intro h; exact hxy (by rw [h])), World.grownBy.refl _ _⟩
end Go.Proofs.Ytochohoihmfanaa.EqI

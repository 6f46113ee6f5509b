/- Contracts of the comparisons of rows: the library's slices.Equal at members and at bools, and the model's. -/
import Derived.Test.YtochohoihmfanaaEqM
import Derived.Test.YtochohoihmfanaaRowE
import Derived.Deep.QuietTactic
import Derived.BigQuiet
namespace Go.Proofs.Ytochohoihmfanaa.EqR
open Go.RowKit Kit Rw Rg EqM

set_option maxRecDepth 20000 in
set_option maxHeartbeats 2000000 in
theorem equalM_any (w : World) (u v : Value) (X Y : List Mem) (hu : SeesG encM w u X) (hv : SeesG encM w v Y) :
    Calls Try.prog 137 #[u, v] w fun e w' => e = .returned (.bool (decide (X = Y))) ∧ w.grownBy w' none := by
  have hl := hu.len
  have hl2 := hv.len
  have HU := Lib.hid hu
  have HV := Lib.hid hv
  obtain ⟨a, cap, rfl, _⟩ := hu
  obtain ⟨a2, cap2, rfl, _⟩ := hv
  by_cases hxy : X.length = Y.length
  · have HXY := Lib.hid hxy
    go_enter Try.func137, Try.ntmps137
    go_wp2
    go_loopw [5, 13] (fun _ i wr => ∃ j : Nat, j ≤ Y.length ∧ i = .int .i64 j ∧ Hid (∀ m, m < j → X.getD m zM = Y.getD m zM) ∧ Hid (w.grownBy wr none)) (fun _ i _ => Y.length - (intOf i).toNat)
    case atStart => exact ⟨0, Nat.zero_le _, rfl, fun m hm => absurd hm (Nat.not_lt_zero _), World.grownBy.refl _ _⟩
    case round =>
      rename_i wr
      obtain ⟨j, hj, rfl, HE, HG1⟩ := hrel
      by_cases hlt : j < Y.length
      · have hlx : j < X.length := by omega
        obtain ⟨b, o, rfl, _, _⟩ := HU.out.at_row hlx
        obtain ⟨b2, o2, rfl, _, _⟩ := HV.out.at_row hlt
        obtain ⟨x, hx⟩ : ∃ x, X.getD j zM = x := ⟨_, rfl⟩
        obtain ⟨y, hy⟩ : ∃ y, Y.getD j zM = y := ⟨_, rfl⟩
        obtain ⟨d0, d1, d2, d3⟩ := atM_in HU.out HG1.out hlx hx
        obtain ⟨e0, e1, e2, e3⟩ := atM_in HV.out HG1.out hlt hy
        have hq := fun w => run_eqM w x y
        have HX := Lib.hid hx
        have HY := Lib.hid hy
        clear hx hy
        by_cases hne : x = y
        · rw [decide_eq_true hne] at hq
          have HNE := Lib.hid hne
          obtain ⟨xi, xs, xn, xb⟩ := x
          obtain ⟨yi, ys, yn, yb⟩ := y
          unfold mval at hq
          dsimp only at d0 d1 d2 d3 e0 e1 e2 e3 hq
          have hb : ∀ w, (binOp .neq 75 (.agg #[.int .i64 xi, .int .i64 xs, .int .i64 xn, .bool xb]) (.agg #[.int .i64 yi, .int .i64 ys, .int .i64 yn, .bool yb])).run Try.prog w = .ok (.bool false) w := fun w => by rw [run_neq_struct, hq]; rfl
          clear hq hne
          go_wp2
          go_quiet (fail)
          go_wp2
          go_roundw
          case rel =>
            refine ⟨j + 1, by omega, by go_num, fun m hm => ?_, grown_drewN HG1.out _⟩
            by_cases h : m = j
            · subst h; rw [HX.out, HY.out]; exact HNE.out
            · exact HE.out m (by omega)
          case measure => simp [intOf]; omega
        · rw [decide_eq_false hne] at hq
          have HNE := Lib.hid hne
          obtain ⟨xi, xs, xn, xb⟩ := x
          obtain ⟨yi, ys, yn, yb⟩ := y
          unfold mval at hq
          dsimp only at d0 d1 d2 d3 e0 e1 e2 e3 hq
          have hb : ∀ w, (binOp .neq 75 (.agg #[.int .i64 xi, .int .i64 xs, .int .i64 xn, .bool xb]) (.agg #[.int .i64 yi, .int .i64 ys, .int .i64 yn, .bool yb])).run Try.prog w = .ok (.bool true) w := fun w => by rw [run_neq_struct, hq]; rfl
          clear hq hne
          have HR : Hid (decide (X = Y) = false) := decide_eq_false (fun h => HNE.out (by rw [← HX.out, ← HY.out, h]))
          go_wp2
          go_quiet (fail)
          go_wp2
          go_ret
          exact ⟨ret_bool HR.out.symm, grown_drewN HG1.out _⟩
      · have HR : Hid (decide (X = Y) = true) := decide_eq_true (listG_same zM HXY.out (fun m hm => HE.out m (by omega)))
        go_wp2
        go_ret
        exact ⟨ret_bool HR.out.symm, HG1.out⟩
  · have HR : Hid (decide (X = Y) = false) := decide_eq_false (fun h => hxy (by rw [h]))
    have hxi : ¬ (X.length : Int) = (Y.length : Int) := by omega
    go_enter Try.func137, Try.ntmps137
    go_wp2
    go_ret
    exact ⟨ret_bool HR.out.symm, World.grownBy.refl _ _⟩

set_option maxRecDepth 20000 in
set_option maxHeartbeats 2000000 in
theorem equalB_any (w : World) (u v : Value) (X Y : List Bool) (hu : SeesG encB w u X) (hv : SeesG encB w v Y) :
    Calls Try.prog 138 #[u, v] w fun e w' => e = .returned (.bool (decide (X = Y))) ∧ w.grownBy w' none := by
  have hl := hu.len
  have hl2 := hv.len
  have HU := Lib.hid hu
  have HV := Lib.hid hv
  obtain ⟨a, cap, rfl, _⟩ := hu
  obtain ⟨a2, cap2, rfl, _⟩ := hv
  by_cases hxy : X.length = Y.length
  · have HXY := Lib.hid hxy
    go_enter Try.func138, Try.ntmps138
    go_wp2
    go_loopw [5, 13] (fun _ i wr => ∃ j : Nat, j ≤ Y.length ∧ i = .int .i64 j ∧ Hid (∀ m, m < j → X.getD m false = Y.getD m false) ∧ Hid (w.grownBy wr none)) (fun _ i _ => Y.length - (intOf i).toNat)
    case atStart => exact ⟨0, Nat.zero_le _, rfl, fun m hm => absurd hm (Nat.not_lt_zero _), World.grownBy.refl _ _⟩
    case round =>
      rename_i wr
      obtain ⟨j, hj, rfl, HE, HG1⟩ := hrel
      by_cases hlt : j < Y.length
      · have hlx : j < X.length := by omega
        obtain ⟨b, o, rfl, _, _⟩ := HU.out.at_row hlx
        obtain ⟨b2, o2, rfl, _, _⟩ := HV.out.at_row hlt
        obtain ⟨x, hx⟩ : ∃ x, X.getD j false = x := ⟨_, rfl⟩
        obtain ⟨y, hy⟩ : ∃ y, Y.getD j false = y := ⟨_, rfl⟩
        have d0 := (HU.out.grown HG1.out).atB hlx
        have e0 := (HV.out.grown HG1.out).atB hlt
        rw [hx] at d0
        rw [hy] at e0
        have HX := Lib.hid hx
        have HY := Lib.hid hy
        clear hx hy
        cases x <;> cases y
        · go_wp2
          go_quiet (fail)
          go_wp2
          go_roundw
          case rel =>
            refine ⟨j + 1, by omega, by go_num, fun m hm => ?_, grown_drewN HG1.out _⟩
            by_cases h : m = j
            · subst h; rw [HX.out, HY.out]
            · exact HE.out m (by omega)
          case measure => simp [intOf]; omega
        · have HR : Hid (decide (X = Y) = false) := decide_eq_false (fun h => by have h1 := HX.out; rw [h, HY.out] at h1; cases h1)
          go_wp2
          go_quiet (fail)
          go_wp2
          go_ret
          exact ⟨ret_bool HR.out.symm, grown_drewN HG1.out _⟩
        · have HR : Hid (decide (X = Y) = false) := decide_eq_false (fun h => by have h1 := HX.out; rw [h, HY.out] at h1; cases h1)
          go_wp2
          go_quiet (fail)
          go_wp2
          go_ret
          exact ⟨ret_bool HR.out.symm, grown_drewN HG1.out _⟩
        · go_wp2
          go_quiet (fail)
          go_wp2
          go_roundw
          case rel =>
            refine ⟨j + 1, by omega, by go_num, fun m hm => ?_, grown_drewN HG1.out _⟩
            by_cases h : m = j
            · subst h; rw [HX.out, HY.out]
            · exact HE.out m (by omega)
          case measure => simp [intOf]; omega
      · have HR : Hid (decide (X = Y) = true) := decide_eq_true (listG_same false HXY.out (fun m hm => HE.out m (by omega)))
        go_wp2
        go_ret
        exact ⟨ret_bool HR.out.symm, HG1.out⟩
  · have HR : Hid (decide (X = Y) = false) := decide_eq_false (fun h => hxy (by rw [h]))
    have hxi : ¬ (X.length : Int) = (Y.length : Int) := by omega
    go_enter Try.func138, Try.ntmps138
    go_wp2
    go_ret
    exact ⟨ret_bool HR.out.symm, World.grownBy.refl _ _⟩

set_option maxRecDepth 20000 in
set_option maxHeartbeats 2000000 in
theorem crewsE_any (w : World) (u v : Value) (X Y : List Mem) (hu : SeesG encM w u X) (hv : SeesG encM w v Y) :
    Calls Try.prog 133 #[u, v] w fun e w' => e = .returned (.bool (decide (X = Y))) ∧ w.grownBy w' none := by
  have hl := hu.len
  have hl2 := hv.len
  have HU := Lib.hid hu
  have HV := Lib.hid hv
  obtain ⟨a, cap, rfl, _⟩ := hu
  obtain ⟨a2, cap2, rfl, _⟩ := hv
  by_cases hxy : X.length = Y.length
  · have HXY := Lib.hid hxy
    go_enter Try.func133, Try.ntmps133
    go_wp2
    go_loopw [5] (fun i wr => ∃ j : Nat, j ≤ Y.length ∧ i = .int .i64 j ∧ Hid (∀ m, m < j → X.getD m zM = Y.getD m zM) ∧ Hid (w.grownBy wr none)) (fun i _ => Y.length - (intOf i).toNat)
    case atStart => exact ⟨0, Nat.zero_le _, rfl, fun m hm => absurd hm (Nat.not_lt_zero _), World.grownBy.refl _ _⟩
    case round =>
      rename_i wr
      obtain ⟨j, hj, rfl, HE, HG1⟩ := hrel
      by_cases hlt : j < Y.length
      · have hlx : j < X.length := by omega
        obtain ⟨b, o, rfl, _, _⟩ := HU.out.at_row hlx
        obtain ⟨b2, o2, rfl, _, _⟩ := HV.out.at_row hlt
        obtain ⟨x, hx⟩ : ∃ x, X.getD j zM = x := ⟨_, rfl⟩
        obtain ⟨y, hy⟩ : ∃ y, Y.getD j zM = y := ⟨_, rfl⟩
        obtain ⟨d0, d1, d2, d3⟩ := atM_in HU.out HG1.out hlx hx
        obtain ⟨e0, e1, e2, e3⟩ := atM_in HV.out HG1.out hlt hy
        have hq := fun w => run_eqM w x y
        have HX := Lib.hid hx
        have HY := Lib.hid hy
        clear hx hy
        by_cases hne : x = y
        · rw [decide_eq_true hne] at hq
          have HNE := Lib.hid hne
          obtain ⟨xi, xs, xn, xb⟩ := x
          obtain ⟨yi, ys, yn, yb⟩ := y
          unfold mval at hq
          dsimp only at d0 d1 d2 d3 e0 e1 e2 e3 hq
          have hb : ∀ w, (binOp .neq 75 (.agg #[.int .i64 xi, .int .i64 xs, .int .i64 xn, .bool xb]) (.agg #[.int .i64 yi, .int .i64 ys, .int .i64 yn, .bool yb])).run Try.prog w = .ok (.bool false) w := fun w => by rw [run_neq_struct, hq]; rfl
          clear hq hne
          go_wp2
          go_quiet (fail)
          go_wp2
          go_roundw
          case rel =>
            refine ⟨j + 1, by omega, by go_num, fun m hm => ?_, grown_drewN HG1.out _⟩
            by_cases h : m = j
            · subst h; rw [HX.out, HY.out]; exact HNE.out
            · exact HE.out m (by omega)
          case measure => simp [intOf]; omega
        · rw [decide_eq_false hne] at hq
          have HNE := Lib.hid hne
          obtain ⟨xi, xs, xn, xb⟩ := x
          obtain ⟨yi, ys, yn, yb⟩ := y
          unfold mval at hq
          dsimp only at d0 d1 d2 d3 e0 e1 e2 e3 hq
          have hb : ∀ w, (binOp .neq 75 (.agg #[.int .i64 xi, .int .i64 xs, .int .i64 xn, .bool xb]) (.agg #[.int .i64 yi, .int .i64 ys, .int .i64 yn, .bool yb])).run Try.prog w = .ok (.bool true) w := fun w => by rw [run_neq_struct, hq]; rfl
          clear hq hne
          have HR : Hid (decide (X = Y) = false) := decide_eq_false (fun h => HNE.out (by rw [← HX.out, ← HY.out, h]))
          go_wp2
          go_quiet (fail)
          go_wp2
          go_ret
          exact ⟨ret_bool HR.out.symm, grown_drewN HG1.out _⟩
      · have HR : Hid (decide (X = Y) = true) := decide_eq_true (listG_same zM HXY.out (fun m hm => HE.out m (by omega)))
        go_wp2
        go_ret
        exact ⟨ret_bool HR.out.symm, HG1.out⟩
  · have HR : Hid (decide (X = Y) = false) := decide_eq_false (fun h => hxy (by rw [h]))
    have hxi : ¬ (X.length : Int) = (Y.length : Int) := by omega
    go_enter Try.func133, Try.ntmps133
    go_wp2
    go_ret
    exact ⟨ret_bool HR.out.symm, World.grownBy.refl _ _⟩

set_option maxRecDepth 20000 in
set_option maxHeartbeats 2000000 in
theorem pastsE_any (w : World) (u v : Value) (X Y : List Bool) (hu : SeesG encB w u X) (hv : SeesG encB w v Y) :
    Calls Try.prog 134 #[u, v] w fun e w' => e = .returned (.bool (decide (X = Y))) ∧ w.grownBy w' none := by
  have hl := hu.len
  have hl2 := hv.len
  have HU := Lib.hid hu
  have HV := Lib.hid hv
  obtain ⟨a, cap, rfl, _⟩ := hu
  obtain ⟨a2, cap2, rfl, _⟩ := hv
  by_cases hxy : X.length = Y.length
  · have HXY := Lib.hid hxy
    go_enter Try.func134, Try.ntmps134
    go_wp2
    go_loopw [5] (fun i wr => ∃ j : Nat, j ≤ Y.length ∧ i = .int .i64 j ∧ Hid (∀ m, m < j → X.getD m false = Y.getD m false) ∧ Hid (w.grownBy wr none)) (fun i _ => Y.length - (intOf i).toNat)
    case atStart => exact ⟨0, Nat.zero_le _, rfl, fun m hm => absurd hm (Nat.not_lt_zero _), World.grownBy.refl _ _⟩
    case round =>
      rename_i wr
      obtain ⟨j, hj, rfl, HE, HG1⟩ := hrel
      by_cases hlt : j < Y.length
      · have hlx : j < X.length := by omega
        obtain ⟨b, o, rfl, _, _⟩ := HU.out.at_row hlx
        obtain ⟨b2, o2, rfl, _, _⟩ := HV.out.at_row hlt
        obtain ⟨x, hx⟩ : ∃ x, X.getD j false = x := ⟨_, rfl⟩
        obtain ⟨y, hy⟩ : ∃ y, Y.getD j false = y := ⟨_, rfl⟩
        have d0 := (HU.out.grown HG1.out).atB hlx
        have e0 := (HV.out.grown HG1.out).atB hlt
        rw [hx] at d0
        rw [hy] at e0
        have HX := Lib.hid hx
        have HY := Lib.hid hy
        clear hx hy
        cases x <;> cases y
        · go_wp2
          go_quiet (fail)
          go_wp2
          go_roundw
          case rel =>
            refine ⟨j + 1, by omega, by go_num, fun m hm => ?_, grown_drewN HG1.out _⟩
            by_cases h : m = j
            · subst h; rw [HX.out, HY.out]
            · exact HE.out m (by omega)
          case measure => simp [intOf]; omega
        · have HR : Hid (decide (X = Y) = false) := decide_eq_false (fun h => by have h1 := HX.out; rw [h, HY.out] at h1; cases h1)
          go_wp2
          go_quiet (fail)
          go_wp2
          go_ret
          exact ⟨ret_bool HR.out.symm, grown_drewN HG1.out _⟩
        · have HR : Hid (decide (X = Y) = false) := decide_eq_false (fun h => by have h1 := HX.out; rw [h, HY.out] at h1; cases h1)
          go_wp2
          go_quiet (fail)
          go_wp2
          go_ret
          exact ⟨ret_bool HR.out.symm, grown_drewN HG1.out _⟩
        · go_wp2
          go_quiet (fail)
          go_wp2
          go_roundw
          case rel =>
            refine ⟨j + 1, by omega, by go_num, fun m hm => ?_, grown_drewN HG1.out _⟩
            by_cases h : m = j
            · subst h; rw [HX.out, HY.out]
            · exact HE.out m (by omega)
          case measure => simp [intOf]; omega
      · have HR : Hid (decide (X = Y) = true) := decide_eq_true (listG_same false HXY.out (fun m hm => HE.out m (by omega)))
        go_wp2
        go_ret
        exact ⟨ret_bool HR.out.symm, HG1.out⟩
  · have HR : Hid (decide (X = Y) = false) := decide_eq_false (fun h => hxy (by rw [h]))
    have hxi : ¬ (X.length : Int) = (Y.length : Int) := by omega
    go_enter Try.func134, Try.ntmps134
    go_wp2
    go_ret
    exact ⟨ret_bool HR.out.symm, World.grownBy.refl _ _⟩

end Go.Proofs.Ytochohoihmfanaa.EqR
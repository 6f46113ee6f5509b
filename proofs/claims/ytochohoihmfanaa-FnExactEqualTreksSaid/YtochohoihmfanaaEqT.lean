/- Depots and pages compared: equations of the run, and the library's slices.Equal over rows of them. -/
import Derived.Test.YtochohoihmfanaaEqR
import Derived.Test.YtochohoihmfanaaRow4
import Derived.Test.YtochohoihmfanaaRowM
import Derived.Laws.StructEq
namespace Go.Proofs.Ytochohoihmfanaa.EqT
open Go.RowKit Kit Rw Rg EqM EqR

def dval (x : Int × Int) : Value := .agg #[.int .i64 x.1, .int .i64 x.2]
theorem dep_eq (x y : Int × Int) : decide (x = y) = (decide (x.1 = y.1) && decide (x.2 = y.2)) := by
  cases x; cases y
  simp [Bool.decide_and]
instance : DecidableEq I4 := fun a b => decidable_of_iff (a.x0 = b.x0 ∧ a.x1 = b.x1 ∧ a.x2 = b.x2 ∧ a.x3 = b.x3) (by cases a; cases b; simp)
def gval (x : I4) : Value := .agg #[.int .i64 x.x0, .int .i64 x.x1, .int .i64 x.x2, .int .i64 x.x3]
theorem page_eq (x y : I4) : decide (x = y) = (decide (x.x0 = y.x0) && (decide (x.x1 = y.x1) && (decide (x.x2 = y.x2) && decide (x.x3 = y.x3)))) := by
  cases x; cases y
  simp [Bool.decide_and]
theorem run_eqD (w : World) (x y : Int × Int) : (Op.equalIn 10000 115 (dval x) (dval y)).run Try.prog w = .ok (decide (x = y)) w := by
  unfold dval
  rw [run_equalIn_agg w 9999 115 _ _ (by kernel_rfl) (by kernel_rfl), dep_eq]
  have hf : (Try.prog.fieldsOf 115).toList.map (fun f => (f.name == "_", f.type, f.offset)) = [(false, 3, 0), (false, 3, 1)] := by kernel_rfl
  generalize (Try.prog.fieldsOf 115).toList = fs at hf
  obtain ⟨f0, f1, rfl⟩ : ∃ f0 f1, fs = [f0, f1] := by
    have hl : fs.length = 2 := by simpa using congrArg List.length hf
    match fs, hl with
    | [a, b], _ => exact ⟨a, b, rfl⟩
  · simp only [List.map_cons, List.map_nil, List.cons.injEq, Prod.mk.injEq, and_true] at hf
    obtain ⟨⟨n0, t0, o0⟩, ⟨n1, t1, o1⟩⟩ := hf
    have hn : ∀ s : String, (s == "_") = false → s ≠ "_" := fun s h => by simpa using h
    by_cases h0 : x.1 = y.1 <;> by_cases h1 : x.2 = y.2 <;>
      simp [Op.eqFields, hn _ n0, hn _ n1, t0, t1, o0, o1, go_sem, h0, h1, Try.underlying3]
theorem run_eqG (w : World) (x y : I4) : (Op.equalIn 10000 117 (gval x) (gval y)).run Try.prog w = .ok (decide (x = y)) w := by
  unfold gval
  rw [run_equalIn_agg w 9999 117 _ _ (by kernel_rfl) (by kernel_rfl), page_eq]
  have hf : (Try.prog.fieldsOf 117).toList.map (fun f => (f.name == "_", f.type, f.offset)) = [(false, 3, 0), (false, 3, 1), (false, 3, 2), (false, 3, 3)] := by kernel_rfl
  generalize (Try.prog.fieldsOf 117).toList = fs at hf
  obtain ⟨f0, f1, f2, f3, rfl⟩ : ∃ f0 f1 f2 f3, fs = [f0, f1, f2, f3] := by
    have hl : fs.length = 4 := by simpa using congrArg List.length hf
    match fs, hl with
    | [a, b, c, d], _ => exact ⟨a, b, c, d, rfl⟩
  · simp only [List.map_cons, List.map_nil, List.cons.injEq, Prod.mk.injEq, and_true] at hf
    obtain ⟨⟨n0, t0, o0⟩, ⟨n1, t1, o1⟩, ⟨n2, t2, o2⟩, ⟨n3, t3, o3⟩⟩ := hf
    have hn : ∀ s : String, (s == "_") = false → s ≠ "_" := fun s h => by simpa using h
    by_cases h0 : x.x0 = y.x0 <;> by_cases h1 : x.x1 = y.x1 <;> by_cases h2 : x.x2 = y.x2 <;> by_cases h3 : x.x3 = y.x3 <;>
      simp [Op.eqFields, hn _ n0, hn _ n1, hn _ n2, hn _ n3, t0, t1, t2, t3, o0, o1, o2, o3, go_sem, h0, h1, h2, h3, Try.underlying3]

set_option maxRecDepth 20000 in
set_option maxHeartbeats 2000000 in
theorem equalD_any (w : World) (u v : Value) (X Y : List (Int × Int)) (hu : SeesG encP w u X) (hv : SeesG encP w v Y) :
    Calls Try.prog 108 #[u, v] w fun e w' => e = .returned (.bool (decide (X = Y))) ∧ w.grownBy w' none := by
  have hl := hu.len
  have hl2 := hv.len
  have HU := Lib.hid hu
  have HV := Lib.hid hv
  obtain ⟨a, cap, rfl, _⟩ := hu
  obtain ⟨a2, cap2, rfl, _⟩ := hv
  by_cases hxy : X.length = Y.length
  · have HXY := Lib.hid hxy
    go_enter Try.func108, Try.ntmps108
    go_wp2
    go_loopw [5, 13] (fun _ i wr => ∃ j : Nat, j ≤ Y.length ∧ i = .int .i64 j ∧ Hid (∀ m, m < j → X.getD m (0, 0) = Y.getD m (0, 0)) ∧ Hid (w.grownBy wr none)) (fun _ i _ => Y.length - (intOf i).toNat)
    case atStart => exact ⟨0, Nat.zero_le _, rfl, fun m hm => absurd hm (Nat.not_lt_zero _), World.grownBy.refl _ _⟩
    case round =>
      rename_i wr
      obtain ⟨j, hj, rfl, HE, HG1⟩ := hrel
      by_cases hlt : j < Y.length
      · have hlx : j < X.length := by omega
        obtain ⟨b, o, rfl, _, _⟩ := HU.out.at_row hlx
        obtain ⟨b2, o2, rfl, _, _⟩ := HV.out.at_row hlt
        obtain ⟨x, hx⟩ : ∃ x, X.getD j (0, 0) = x := ⟨_, rfl⟩
        obtain ⟨y, hy⟩ : ∃ y, Y.getD j (0, 0) = y := ⟨_, rfl⟩
        obtain ⟨d0, d1⟩ := atP_in HU.out HG1.out hlx hx
        obtain ⟨e0, e1⟩ := atP_in HV.out HG1.out hlt hy
        have hq := fun w => run_eqD w x y
        have HX := Lib.hid hx
        have HY := Lib.hid hy
        clear hx hy
        by_cases hne : x = y
        · rw [decide_eq_true hne] at hq
          have HNE := Lib.hid hne
          obtain ⟨xi, xs⟩ := x
          obtain ⟨yi, ys⟩ := y
          unfold dval at hq
          dsimp only at d0 d1 e0 e1 hq
          have hb : ∀ w, (binOp .neq 115 (.agg #[.int .i64 xi, .int .i64 xs]) (.agg #[.int .i64 yi, .int .i64 ys])).run Try.prog w = .ok (.bool false) w := fun w => by rw [run_neq_struct, hq]; rfl
          clear hq hne
          go_wp2
          go_quiet (fail)
          go_wp2
          go_roundw
          case rel =>
            refine ⟨j + 1, by omega, by go_num, fun m hm => ?_, grown_drewN HG1.out _⟩
            by_cases h : m = j
            · subst h; rw [HX.out, HY.out]; exact HNE.out
            · exact HE.out m (by omega)
          case measure => simp [intOf]; omega
        · rw [decide_eq_false hne] at hq
          have HNE := Lib.hid hne
          obtain ⟨xi, xs⟩ := x
          obtain ⟨yi, ys⟩ := y
          unfold dval at hq
          dsimp only at d0 d1 e0 e1 hq
          have hb : ∀ w, (binOp .neq 115 (.agg #[.int .i64 xi, .int .i64 xs]) (.agg #[.int .i64 yi, .int .i64 ys])).run Try.prog w = .ok (.bool true) w := fun w => by rw [run_neq_struct, hq]; rfl
          clear hq hne
          have HR : Hid (decide (X = Y) = false) := decide_eq_false (fun h => HNE.out (by rw [← HX.out, ← HY.out, h]))
          go_wp2
          go_quiet (fail)
          go_wp2
          go_ret
          exact ⟨ret_bool HR.out.symm, grown_drewN HG1.out _⟩
      · have HR : Hid (decide (X = Y) = true) := decide_eq_true (listG_same (0, 0) HXY.out (fun m hm => HE.out m (by omega)))
        go_wp2
        go_ret
        exact ⟨ret_bool HR.out.symm, HG1.out⟩
  · have HR : Hid (decide (X = Y) = false) := decide_eq_false (fun h => hxy (by rw [h]))
    have hxi : ¬ (X.length : Int) = (Y.length : Int) := by omega
    go_enter Try.func108, Try.ntmps108
    go_wp2
    go_ret
    exact ⟨ret_bool HR.out.symm, World.grownBy.refl _ _⟩

set_option maxRecDepth 20000 in
set_option maxHeartbeats 2000000 in
theorem equalG_any (w : World) (u v : Value) (X Y : List I4) (hu : SeesG enc4 w u X) (hv : SeesG enc4 w v Y) :
    Calls Try.prog 110 #[u, v] w fun e w' => e = .returned (.bool (decide (X = Y))) ∧ w.grownBy w' none := by
  have hl := hu.len
  have hl2 := hv.len
  have HU := Lib.hid hu
  have HV := Lib.hid hv
  obtain ⟨a, cap, rfl, _⟩ := hu
  obtain ⟨a2, cap2, rfl, _⟩ := hv
  by_cases hxy : X.length = Y.length
  · have HXY := Lib.hid hxy
    go_enter Try.func110, Try.ntmps110
    go_wp2
    go_loopw [5, 13] (fun _ i wr => ∃ j : Nat, j ≤ Y.length ∧ i = .int .i64 j ∧ Hid (∀ m, m < j → X.getD m zI4 = Y.getD m zI4) ∧ Hid (w.grownBy wr none)) (fun _ i _ => Y.length - (intOf i).toNat)
    case atStart => exact ⟨0, Nat.zero_le _, rfl, fun m hm => absurd hm (Nat.not_lt_zero _), World.grownBy.refl _ _⟩
    case round =>
      rename_i wr
      obtain ⟨j, hj, rfl, HE, HG1⟩ := hrel
      by_cases hlt : j < Y.length
      · have hlx : j < X.length := by omega
        obtain ⟨b, o, rfl, _, _⟩ := HU.out.at_row hlx
        obtain ⟨b2, o2, rfl, _, _⟩ := HV.out.at_row hlt
        obtain ⟨x, hx⟩ : ∃ x, X.getD j zI4 = x := ⟨_, rfl⟩
        obtain ⟨y, hy⟩ : ∃ y, Y.getD j zI4 = y := ⟨_, rfl⟩
        obtain ⟨d0, d1, d2, d3⟩ := at4_in HU.out HG1.out hlx hx
        obtain ⟨e0, e1, e2, e3⟩ := at4_in HV.out HG1.out hlt hy
        have hq := fun w => run_eqG w x y
        have HX := Lib.hid hx
        have HY := Lib.hid hy
        clear hx hy
        by_cases hne : x = y
        · rw [decide_eq_true hne] at hq
          have HNE := Lib.hid hne
          obtain ⟨xi, xs, xn, xb⟩ := x
          obtain ⟨yi, ys, yn, yb⟩ := y
          unfold gval at hq
          dsimp only at d0 d1 d2 d3 e0 e1 e2 e3 hq
          have hb : ∀ w, (binOp .neq 117 (.agg #[.int .i64 xi, .int .i64 xs, .int .i64 xn, .int .i64 xb]) (.agg #[.int .i64 yi, .int .i64 ys, .int .i64 yn, .int .i64 yb])).run Try.prog w = .ok (.bool false) w := fun w => by rw [run_neq_struct, hq]; rfl
          clear hq hne
          go_wp2
          go_quiet (fail)
          go_wp2
          go_roundw
          case rel =>
            refine ⟨j + 1, by omega, by go_num, fun m hm => ?_, grown_drewN HG1.out _⟩
            by_cases h : m = j
            · subst h; rw [HX.out, HY.out]; exact HNE.out
            · exact HE.out m (by omega)
          case measure => simp [intOf]; omega
        · rw [decide_eq_false hne] at hq
          have HNE := Lib.hid hne
          obtain ⟨xi, xs, xn, xb⟩ := x
          obtain ⟨yi, ys, yn, yb⟩ := y
          unfold gval at hq
          dsimp only at d0 d1 d2 d3 e0 e1 e2 e3 hq
          have hb : ∀ w, (binOp .neq 117 (.agg #[.int .i64 xi, .int .i64 xs, .int .i64 xn, .int .i64 xb]) (.agg #[.int .i64 yi, .int .i64 ys, .int .i64 yn, .int .i64 yb])).run Try.prog w = .ok (.bool true) w := fun w => by rw [run_neq_struct, hq]; rfl
          clear hq hne
          have HR : Hid (decide (X = Y) = false) := decide_eq_false (fun h => HNE.out (by rw [← HX.out, ← HY.out, h]))
          go_wp2
          go_quiet (fail)
          go_wp2
          go_ret
          exact ⟨ret_bool HR.out.symm, grown_drewN HG1.out _⟩
      · have HR : Hid (decide (X = Y) = true) := decide_eq_true (listG_same zI4 HXY.out (fun m hm => HE.out m (by omega)))
        go_wp2
        go_ret
        exact ⟨ret_bool HR.out.symm, HG1.out⟩
  · have HR : Hid (decide (X = Y) = false) := decide_eq_false (fun h => hxy (by rw [h]))
    have hxi : ¬ (X.length : Int) = (Y.length : Int) := by omega
    go_enter Try.func110, Try.ntmps110
    go_wp2
    go_ret
    exact ⟨ret_bool HR.out.symm, World.grownBy.refl _ _⟩

end Go.Proofs.Ytochohoihmfanaa.EqT

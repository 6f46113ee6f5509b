/- Contracts of the program's and of the model's Healthy and Strongest. -/
import Derived.Test.YtlfhaanpfjfmcaaCrewF
import Derived.Test.YtlfhaanpfjfmcaaRowM
import Derived.IntWalk
import Derived.Deep.QuietTactic
import Derived.BigQuiet
namespace Go.Proofs.Ytlfhaanpfjfmcaa.CrH
open Go.RowKit Kit Rw Rg Crw

theorem info_int : (Try.prog.info? 3).map (fun i => (i.zero, i.size, i.bytes)) = some (some (.int .i64 0), 1, 8) := by kernel_rfl
theorem healthy_take {L : List Mem} {j : Nat} (hj : j ≤ L.length) : (healthy (L.take j)).length ≤ j := by
  have := healthy_len (L.take j)
  rw [List.length_take] at this; omega

set_option maxRecDepth 20000 in
set_option maxHeartbeats 1000000 in
theorem sHealthy_any (w : World) (v : Value) (L : List Mem) (hv : SeesG encM w v L) (hn : L.length ≤ 1000000000) :
    Calls Try.prog 30 #[v] w fun e w' => ∃ u, e = .returned u ∧ Own .i64 3 w' w.heap.size u (healthy L) ∧ w.grownBy w' none := by
  have HV := Lib.hid hv
  have HOK := Lib.hid hv.ok
  obtain ⟨a, cap, rfl, _⟩ := hv
  obtain ⟨i0, hi, hz0, hz1, hz2⟩ := info_parts info_int
  have HW : Hid (Own .i64 3 (w.alloc (.cells #[] 3 (0, 0))) w.heap.size (.slice (some ⟨w.heap.size, 0, none⟩) 0 0) (healthy (L.take 0))) := by rw [List.take_zero]; exact own_empty w
  have HG0 := Lib.hid (World.grownBy_alloc w (.cells #[] 3 (0, 0)) none)
  go_enter Try.func30, Try.ntmps30
  go_wp2
  go_loopw [3, 4] (fun u i wr => ∃ j : Nat, j ≤ L.length ∧ i = .int .i64 j ∧ Hid (Own .i64 3 wr w.heap.size u (healthy (L.take j))) ∧ Hid (w.grownBy wr none)) (fun _ i _ => L.length - (intOf i).toNat)
  case atStart => exact ⟨0, Nat.zero_le _, rfl, HW, HG0⟩
  case round =>
    rename_i u _ _
    obtain ⟨j, hj, rfl, HO, HG⟩ := hrel
    by_cases hlt : j < L.length
    · obtain ⟨b, o, rfl, _, _⟩ := HV.out.at_row hlt
      obtain ⟨x, hx⟩ : ∃ x, L.getD j zM = x := ⟨_, rfl⟩
      obtain ⟨d0, d1, d2, d3⟩ := atM_in HV.out HG.out hlt hx
      have hn1 := healthy_next hlt
      rw [show dM = zM from rfl, hx] at hn1
      have HN := Lib.hid hn1
      have hxi : (Lit.int .i64 x.id).wf = true := by rw [← hx]; exact (HOK.out _ (memG hlt)).1
      have HXI := Lib.hid (i64_of hxi)
      have HLL := Lib.hid (healthy_take hj)
      clear hn1 hx hxi
      obtain ⟨xi, xs, xn, xb⟩ := x
      dsimp only at d0 d1 d2 d3
      cases xb
      · go_wp2_with (at_builtin; go_loud (refine wpList_append_one _ rfl _ _ 31 rfl w.heap.size 3 i0 (.int .i64 0) 8 Try.underlying31 hi hz0 hz1 hz2 rfl .i64 _ (healthy (L.take j)) rfl HO.out xi rfl (i64_mk HXI.out) (by have := HLL.out; omega) (by decide) HG.out.size ?_); intro v4 w4 hown4 hgrow4; have HO4 := Lib.hid hown4; have HG4 := Lib.hid (grown_new HG.out hgrow4 (fun c hc => (HO.out.lt c hc).1)); clear hown4 hgrow4)
        go_roundw
        case rel => exact ⟨j + 1, by omega, by go_num, by rw [HN.out]; exact HO4, HG4⟩
        case measure => simp [intOf]; omega
      · go_wp2
        go_roundw
        case rel => exact ⟨j + 1, by omega, by go_num, by rw [HN.out]; simpa using HO, HG⟩
        case measure => simp [intOf]; omega
    · have : j = L.length := by omega
      subst this
      go_wp2
      go_ret
      exact ⟨_, rfl, by have := HO.out; rw [List.take_length] at this; exact this, HG.out⟩

set_option maxRecDepth 20000 in
set_option maxHeartbeats 1000000 in
theorem iHealthy_any (w : World) (v : Value) (L : List Mem) (hv : SeesG encM w v L) (hn : L.length ≤ 1000000000) :
    Calls Try.prog 15 #[v] w fun e w' => ∃ u, e = .returned u ∧ Own .i64 3 w' w.heap.size u (healthy L) ∧ w.grownBy w' none := by
  have HV := Lib.hid hv
  have HOK := Lib.hid hv.ok
  obtain ⟨a, cap, rfl, _⟩ := hv
  obtain ⟨i0, hi, hz0, hz1, hz2⟩ := info_parts info_int
  have HW : Hid (Own .i64 3 (w.alloc (.cells #[] 3 (0, 0))) w.heap.size (.slice (some ⟨w.heap.size, 0, none⟩) 0 0) (healthy (L.take 0))) := by rw [List.take_zero]; exact own_empty w
  have HG0 := Lib.hid (World.grownBy_alloc w (.cells #[] 3 (0, 0)) none)
  go_enter Try.func15, Try.ntmps15
  go_wp2
  go_loopw [3, 9] (fun u i wr => ∃ j : Nat, j ≤ L.length ∧ i = .int .i64 j ∧ Hid (Own .i64 3 wr w.heap.size u (healthy (L.take j))) ∧ Hid (w.grownBy wr none)) (fun _ i _ => L.length - (intOf i).toNat)
  case atStart => exact ⟨0, Nat.zero_le _, rfl, HW, HG0⟩
  case round =>
    rename_i u _ wr
    obtain ⟨j, hj, rfl, HO, HG⟩ := hrel
    by_cases hlt : j < L.length
    · obtain ⟨b, o, rfl, _, _⟩ := HV.out.at_row hlt
      obtain ⟨x, hx⟩ : ∃ x, L.getD j zM = x := ⟨_, rfl⟩
      obtain ⟨d0, d1, d2, d3⟩ := atM_in HV.out HG.out hlt hx
      have hn1 := healthy_next hlt
      rw [show dM = zM from rfl, hx] at hn1
      have HN := Lib.hid hn1
      have hxi : (Lit.int .i64 x.id).wf = true := by rw [← hx]; exact (HOK.out _ (memG hlt)).1
      have HXI := Lib.hid (i64_of hxi)
      have HLL := Lib.hid (healthy_take hj)
      clear hn1 hx hxi
      obtain ⟨xi, xs, xn, xb⟩ := x
      dsimp only at d0 d1 d2 d3
      have hga := World.grownBy_alloc wr (.cells #[.int .i64 xi, .int .i64 xs, .int .i64 xn, .bool xb] 51 (0, 0)) none
      have HG1 := Lib.hid (grownN_trans HG.out hga)
      have HO1 := Lib.hid (HO.out.grown hga)
      clear hga
      cases xb
      · go_wp2_with (at_builtin; go_loud (refine wpList_append_one _ rfl _ _ 31 rfl w.heap.size 3 i0 (.int .i64 0) 8 Try.underlying31 hi hz0 hz1 hz2 rfl .i64 _ (healthy (L.take j)) rfl HO1.out xi (by rw [World.size_alloc]; rfl) (i64_mk HXI.out) (by have := HLL.out; omega) (by decide) HG1.out.size ?_); intro v4 w4 hown4 hgrow4; have HO4 := Lib.hid hown4; have HG4 := Lib.hid (grown_new HG1.out hgrow4 (fun c hc => (HO1.out.lt c hc).1)); clear hown4 hgrow4)
        go_roundw
        case rel => exact ⟨j + 1, by omega, by go_num, by rw [HN.out]; exact HO4, HG4⟩
        case measure => simp [intOf]; omega
      · go_wp2
        go_roundw
        case rel => exact ⟨j + 1, by omega, by go_num, by rw [HN.out]; simpa using HO1, HG1⟩
        case measure => simp [intOf]; omega
    · have : j = L.length := by omega
      subst this
      go_wp2
      go_ret
      exact ⟨_, rfl, by have := HO.out; rw [List.take_length] at this; exact this, HG.out⟩

theorem best_take {L : List Mem} {j : Nat} (h : (L.getD j dM).ill = false ∧ (best L j < 0 ∨ (L.getD (best L j).toNat dM).str < (L.getD j dM).str)) : best L (j + 1) = j := if_pos h
theorem best_keep {L : List Mem} {j : Nat} (h : ¬ ((L.getD j dM).ill = false ∧ (best L j < 0 ∨ (L.getD (best L j).toNat dM).str < (L.getD j dM).str))) : best L (j + 1) = best L j := if_neg h

set_option maxRecDepth 20000 in
set_option maxHeartbeats 1000000 in
theorem sStrongest_any (w : World) (v : Value) (L : List Mem) (hv : SeesG encM w v L) :
    Calls Try.prog 34 #[v] w fun e w' => e = .returned (.int .i64 (strongest L)) ∧ w.grownBy w' none := by
  have hl := hv.len
  have HV := Lib.hid hv
  obtain ⟨a, cap, rfl, _⟩ := hv
  go_enter Try.func34, Try.ntmps34
  go_wp2
  go_loopw [3, 4] (fun k i wr => ∃ j : Nat, j ≤ L.length ∧ i = .int .i64 j ∧ k = .int .i64 (best L j) ∧ Hid (w.grownBy wr none)) (fun _ i _ => L.length - (intOf i).toNat)
  case atStart => exact ⟨0, Nat.zero_le _, rfl, rfl, World.grownBy.refl _ _⟩
  case round =>
    obtain ⟨j, hj, rfl, rfl, HG⟩ := hrel
    have hbl := best_lt L j
    by_cases hlt : j < L.length
    · obtain ⟨b, o, rfl, _, _⟩ := HV.out.at_row hlt
      obtain ⟨x, hx⟩ : ∃ x, L.getD j zM = x := ⟨_, rfl⟩
      obtain ⟨d0, d1, d2, d3⟩ := atM_in HV.out HG.out hlt hx
      have HX := Lib.hid hx
      clear hx
      obtain ⟨xi, xs, xn, xb⟩ := x
      dsimp only at d0 d1 d2 d3
      by_cases hk : best L j < 0
      · have hk1 : best L j = -1 := by omega
        have HK1 := Lib.hid hk1
        rw [hk1]
        clear hk hk1 hbl
        cases xb
        · have HN : Hid (best L (j + 1) = j) := best_take ⟨by rw [show dM = zM from rfl, HX.out], .inl (by rw [HK1.out]; decide)⟩
          go_wp2
          go_quiet (fail)
          go_wp2
          go_roundw
          case rel => exact ⟨j + 1, by omega, by go_num, by rw [HN.out], grown_drewN HG.out _⟩
          case measure => simp [intOf]; omega
        · have HN : Hid (best L (j + 1) = -1) := (best_keep (by rw [show dM = zM from rfl, HX.out]; simp)).trans HK1.out
          go_wp2
          go_quiet (fail)
          go_wp2
          go_roundw
          case rel => exact ⟨j + 1, by omega, by go_num, by rw [HN.out], grown_drewN HG.out _⟩
          case measure => simp [intOf]; omega
      · obtain ⟨k, hkk⟩ : ∃ k : Nat, best L j = k := ⟨(best L j).toNat, by omega⟩
        have hkl : k < L.length := by omega
        rw [hkk]
        have HKK := Lib.hid hkk
        obtain ⟨y, hy⟩ : ∃ y, L.getD k zM = y := ⟨_, rfl⟩
        obtain ⟨e0, e1, e2, e3⟩ := atM_in HV.out HG.out hkl hy
        have HY := Lib.hid hy
        have hkd : decide ((k : Int) < 0) = false := decide_eq_false (by omega)
        clear hk hkk hbl hy
        obtain ⟨yi, ys, yn, yb⟩ := y
        dsimp only at e0 e1 e2 e3
        cases xb
        · by_cases hq : ys < xs
          · have HN : Hid (best L (j + 1) = j) := best_take ⟨by rw [show dM = zM from rfl, HX.out], .inr (by rw [HKK.out, show dM = zM from rfl, HX.out, Int.toNat_natCast, HY.out]; exact hq)⟩
            go_wp2
            go_quiet (fail)
            go_wp2
            go_roundw
            case rel => exact ⟨j + 1, by omega, by go_num, by rw [HN.out], grown_drewN HG.out _⟩
            case measure => simp [intOf]; omega
          · have HN : Hid (best L (j + 1) = k) := (best_keep (by
              rw [HKK.out, show dM = zM from rfl, HX.out, Int.toNat_natCast, HY.out]
              rintro ⟨_, h | h⟩
              · omega
              · exact hq h)).trans HKK.out
            go_wp2
            go_quiet (fail)
            go_wp2
            go_roundw
            case rel => exact ⟨j + 1, by omega, by go_num, by rw [HN.out], grown_drewN HG.out _⟩
            case measure => simp [intOf]; omega
        · have HN : Hid (best L (j + 1) = k) := (best_keep (by rw [show dM = zM from rfl, HX.out]; simp)).trans HKK.out
          go_wp2
          go_quiet (fail)
          go_wp2
          go_roundw
          case rel => exact ⟨j + 1, by omega, by go_num, by rw [HN.out], grown_drewN HG.out _⟩
          case measure => simp [intOf]; omega
    · have : j = L.length := by omega
      subst this
      by_cases hk : best L L.length < 0
      · have HR : Hid (strongest L = 0) := if_pos hk
        go_wp2
        go_ret
        exact ⟨ret_i64 HR.out.symm, HG.out⟩
      · obtain ⟨k, hkk⟩ : ∃ k : Nat, best L L.length = k := ⟨(best L L.length).toNat, by omega⟩
        have hkl : k < L.length := by omega
        obtain ⟨y, hy⟩ : ∃ y, L.getD k zM = y := ⟨_, rfl⟩
        have HR : Hid (strongest L = y.id) := by show strongest L = _; unfold strongest; rw [if_neg hk, hkk, Int.toNat_natCast, ← hy]; rfl
        rw [hkk]
        obtain ⟨b, o, rfl, _, _⟩ := HV.out.at_row hkl
        obtain ⟨e0, e1, e2, e3⟩ := atM_in HV.out HG.out hkl hy
        clear hk hkk hbl hy
        go_wp2
        go_ret
        exact ⟨ret_i64 HR.out.symm, HG.out⟩

theorem box4_set {w : World} {b : Nat} {x y z u x' y' z' u' : Value} {T : TypeId} (h : Box w b #[x, y, z, u] T) :
    Box ((((w.setCell ⟨b, 0, none⟩ x').setCell ⟨b, 1, none⟩ y').setCell ⟨b, 2, none⟩ z').setCell ⟨b, 3, none⟩ u') b #[x', y', z', u'] T ∧ w.grownBy ((((w.setCell ⟨b, 0, none⟩ x').setCell ⟨b, 1, none⟩ y').setCell ⟨b, 2, none⟩ z').setCell ⟨b, 3, none⟩ u') (some b) :=
  ⟨box_set (box_set (box_set (box_set h 0 x') 1 y') 2 z') 3 u', grownN_trans (grownN_trans (grownN_trans (grown_set w b 0 x') (grown_set _ b 1 y')) (grown_set _ b 2 z')) (grown_set _ b 3 u')⟩
theorem four {w : World} {b : Nat} {x y z u : Value} {T : TypeId} (h : Box w b #[x, y, z, u] T) : w.cell? ⟨b, 0, none⟩ = some x ∧ w.cell? ⟨b, 1, none⟩ = some y ∧ w.cell? ⟨b, 2, none⟩ = some z ∧ w.cell? ⟨b, 3, none⟩ = some u := ⟨h.cell 0, h.cell 1, h.cell 2, h.cell 3⟩
/-- The strongest of the first j who are well, as a member. -/
def bestM (L : List Mem) (j : Nat) : Mem := if best L j < 0 then zM else L.getD (best L j).toNat zM
def found (L : List Mem) (j : Nat) : Bool := decide (0 ≤ best L j)

set_option maxRecDepth 20000 in
set_option maxHeartbeats 1000000 in
theorem iStrongest_any (w : World) (v : Value) (L : List Mem) (hv : SeesG encM w v L) :
    Calls Try.prog 19 #[v] w fun e w' => e = .returned (.int .i64 (strongest L)) ∧ w.grownBy w' none := by
  have hl := hv.len
  have HV := Lib.hid hv
  obtain ⟨a, cap, rfl, _⟩ := hv
  have HB0 : Hid (Box (w.alloc (.cells #[.int .i64 0, .int .i64 0, .int .i64 0, .bool false] 51 (0, 0))) w.heap.size #[.int .i64 (bestM L 0).id, .int .i64 (bestM L 0).str, .int .i64 (bestM L 0).need, .bool (bestM L 0).ill] 51) := box_new w _ _
  have HG0 := Lib.hid (World.grownBy_alloc w (.cells #[.int .i64 0, .int .i64 0, .int .i64 0, .bool false] 51 (0, 0)) none)
  go_enter Try.func19, Try.ntmps19
  go_wp2
  go_loopw [4, 10] (fun q i wr => ∃ j : Nat, j ≤ L.length ∧ i = .int .i64 j ∧ q = .bool (found L j) ∧ Hid (Box wr w.heap.size #[.int .i64 (bestM L j).id, .int .i64 (bestM L j).str, .int .i64 (bestM L j).need, .bool (bestM L j).ill] 51) ∧ Hid (w.grownBy wr none)) (fun _ i _ => L.length - (intOf i).toNat)
  case atStart => exact ⟨0, Nat.zero_le _, rfl, rfl, HB0, HG0⟩
  case round =>
    rename_i wr
    obtain ⟨j, hj, rfl, rfl, HB, HG⟩ := hrel
    have hbl := best_lt L j
    obtain ⟨y, hy⟩ : ∃ y, y = bestM L j := ⟨_, rfl⟩
    rw [← hy] at HB
    have HY := Lib.hid hy
    clear hy
    by_cases hlt : j < L.length
    · obtain ⟨b, o, rfl, _, _⟩ := HV.out.at_row hlt
      obtain ⟨x, hx⟩ : ∃ x, L.getD j zM = x := ⟨_, rfl⟩
      obtain ⟨d0, d1, d2, d3⟩ := atM_in HV.out HG.out hlt hx
      have HX := Lib.hid hx
      clear hx
      obtain ⟨xi, xs, xn, xb⟩ := x
      obtain ⟨yi, ys, yn, yb⟩ := y
      dsimp only at d0 d1 d2 d3 HB
      have hga := World.grownBy_alloc wr (.cells #[.int .i64 xi, .int .i64 xs, .int .i64 xn, .bool xb] 51 (0, 0)) none
      have HG1 := Lib.hid (grownN_trans HG.out hga)
      have HB1 := Lib.hid (HB.out.grown hga)
      have hlt0 := HB.out.lt
      obtain ⟨c0, c1, c2, c3⟩ := four HB.out
      have f0 := HB.out.free 0
      have f1 := HB.out.free 1
      have f2 := HB.out.free 2
      have f3 := HB.out.free 3
      have hp := box4_set (x' := .int .i64 xi) (y' := .int .i64 xs) (z' := .int .i64 xn) (u' := .bool xb) HB.out
      have hpa := World.grownBy_alloc ((((wr.setCell ⟨w.heap.size, 0, none⟩ (.int .i64 xi)).setCell ⟨w.heap.size, 1, none⟩ (.int .i64 xs)).setCell ⟨w.heap.size, 2, none⟩ (.int .i64 xn)).setCell ⟨w.heap.size, 3, none⟩ (.bool xb)) (.cells #[.int .i64 xi, .int .i64 xs, .int .i64 xn, .bool xb] 51 (0, 0)) none
      have HP := Lib.hid (And.intro (hp.1.grown hpa) (grownN_trans (grown_new HG.out hp.2 (fun c h => by injection h with h; omega)) hpa))
      clear hga hp hpa
      have take : Hid (best L (j + 1) = j) → found L (j + 1) = true ∧ bestM L (j + 1) = ⟨xi, xs, xn, xb⟩ := fun h => by
        refine ⟨by unfold found; rw [h.out]; exact decide_eq_true (by omega), ?_⟩
        unfold bestM; rw [h.out, if_neg (by omega), Int.toNat_natCast, HX.out]
      have keep : Hid (best L (j + 1) = best L j) → found L (j + 1) = found L j ∧ bestM L (j + 1) = ⟨yi, ys, yn, yb⟩ := fun h => by
        refine ⟨by unfold found; rw [h.out], ?_⟩
        rw [HY.out]; unfold bestM; rw [h.out]
      have TK := Lib.hid take
      have KP := Lib.hid keep
      clear take keep
      by_cases hk : best L j < 0
      · have hf : found L j = false := by unfold found; exact decide_eq_false (by omega)
        have HF := Lib.hid hf
        rw [hf]
        cases xb
        · have HN : Hid (best L (j + 1) = j) := best_take ⟨by rw [show dM = zM from rfl, HX.out], .inl hk⟩
          clear hk hf hbl
          go_wp2
          go_roundw
          case rel => exact ⟨j + 1, by omega, by go_num, by rw [(TK.out HN).1], by rw [(TK.out HN).2]; exact HP.out.1, HP.out.2⟩
          case measure => simp [intOf]; omega
        · have HN : Hid (best L (j + 1) = best L j) := best_keep (by rw [show dM = zM from rfl, HX.out]; simp)
          clear hk hf hbl
          go_wp2
          go_roundw
          case rel => exact ⟨j + 1, by omega, by go_num, by rw [(KP.out HN).1, HF.out], by rw [(KP.out HN).2]; exact HB1, HG1⟩
          case measure => simp [intOf]; omega
      · have hf : found L j = true := by unfold found; exact decide_eq_true (by omega)
        have HF := Lib.hid hf
        have hys : (L.getD (best L j).toNat dM).str = ys := by
          have := congrArg Mem.str HY.out
          unfold bestM at this
          rw [if_neg hk] at this
          exact this.symm
        rw [hf]
        cases xb
        · by_cases hq : ys < xs
          · have HN : Hid (best L (j + 1) = j) := best_take ⟨by rw [show dM = zM from rfl, HX.out], .inr (by rw [hys, show dM = zM from rfl, HX.out]; exact hq)⟩
            clear hk hf hbl hys
            go_wp2
            go_roundw
            case rel => exact ⟨j + 1, by omega, by go_num, by rw [(TK.out HN).1], by rw [(TK.out HN).2]; exact HP.out.1, HP.out.2⟩
            case measure => simp [intOf]; omega
          · have HN : Hid (best L (j + 1) = best L j) := best_keep (by
              rw [hys, show dM = zM from rfl, HX.out]
              rintro ⟨_, h | h⟩
              · exact hk h
              · exact hq h)
            clear hk hf hbl hys
            go_wp2
            go_roundw
            case rel => exact ⟨j + 1, by omega, by go_num, by rw [(KP.out HN).1, HF.out], by rw [(KP.out HN).2]; exact HB1, HG1⟩
            case measure => simp [intOf]; omega
        · have HN : Hid (best L (j + 1) = best L j) := best_keep (by rw [show dM = zM from rfl, HX.out]; simp)
          clear hk hf hbl hys
          go_wp2
          go_roundw
          case rel => exact ⟨j + 1, by omega, by go_num, by rw [(KP.out HN).1, HF.out], by rw [(KP.out HN).2]; exact HB1, HG1⟩
          case measure => simp [intOf]; omega
    · have : j = L.length := by omega
      subst this
      have HR : Hid (strongest L = y.id) := by
        show strongest L = _
        rw [HY.out]; unfold strongest bestM
        split <;> rfl
      obtain ⟨c0, c1, c2, c3⟩ := four HB.out
      go_wp2
      go_ret
      exact ⟨ret_i64 HR.out.symm, HG.out⟩
end Go.Proofs.Ytlfhaanpfjfmcaa.CrH

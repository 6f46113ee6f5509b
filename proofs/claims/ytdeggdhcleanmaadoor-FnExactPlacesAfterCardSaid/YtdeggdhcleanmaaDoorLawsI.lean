/- Contracts of the laws' helpers on rows of ints: copies, comparisons, marks. -/
import Derived.Test.YtdeggdhcleanmaaDoorMBase
import Derived.Deep.QuietTactic
import Derived.BigQuiet
namespace Go.Proofs.YtdeggdhcleanmaaDoor.LawsI
open Go.RowKit Kit Rw

theorem info_i64 : (Tryd.prog.info? 3).map (fun i => (i.zero, i.size, i.bytes)) = some (some (.int .i64 0), 1, 8) := by kernel_rfl

/-- The marks from 'm' on. -/
def marksI (m n : Nat) : List Int := (List.range n).map (fun j => ((m + j : Nat) : Int))
theorem marksI_len (m n : Nat) : (marksI m n).length = n := by simp [marksI]
theorem marksI_get {m n j : Nat} (hj : j < n) : (marksI m n).getD j 0 = ((m + j : Nat) : Int) := by simp [marksI, hj]

theorem list_same {X Y : List Int} (h : X.length = Y.length) (he : ∀ m, m < Y.length → X.getD m 0 = Y.getD m 0) : X = Y := by
  apply List.ext_getElem h
  intro i h1 h2
  have := he i h2
  simpa [h1, h2] using this

set_option maxHeartbeats 400000 in
theorem to_any (w : World) (v : Value) (X : List Int) (hv : Sees .i64 w v X) (hn : X.length ≤ 1000000000000) :
    Calls Tryd.prog 24 #[v] w fun e w' => ∃ u, e = .returned u ∧ Own .i64 3 w' w.heap.size u X ∧ w.grownBy w' none := by
  have HV := Lib.hid hv
  have HW := Lib.hid hv.wf
  obtain ⟨a, cap, rfl, hlc, hcm, hnil, hwf, hcell⟩ := hv
  have hn1 : X.length ≤ maxLen := by unfold maxLen; omega
  clear hwf hcm hnil
  have HC := Lib.hid hcell
  clear hcell
  obtain ⟨i0, hi, hz0, hz1, hz2⟩ := info_parts info_i64
  go_enter Tryd.func24, Tryd.ntmps24
  go_wp2_with (at_make; refine wpList_make_full _ rfl _ _ 24 rfl w.heap.size 3 i0 (.int .i64 0) 1 Tryd.underlying24 hi hz0 hz1 .i64 .i64 _ _ X.length rfl rfl rfl rfl (by rw [hz2]; omega) hn1 (Nat.le_refl _) ?_; intro w1 hown hgrow)
  have hown : w1.ownsRow w.heap.size 3 1 (.slice (some ⟨w.heap.size, 0, none⟩) X.length X.length) X.length ((X.take 0 ++ (List.replicate X.length 0).drop 0).map (Value.int .i64)) := by
    simpa [toList_madeCells_one, Value.cells] using hown
  have HV1 := Lib.hid (HV.out.grown hgrow)
  have HO := Lib.hid hown
  have HG := Lib.hid hgrow
  clear hown hgrow
  go_loopw [4] (fun i wr => ∃ j : Nat, j ≤ X.length ∧ i = .int .i64 j ∧ Hid (wr.ownsRow w.heap.size 3 1 (.slice (some ⟨w.heap.size, 0, none⟩) X.length X.length) X.length ((X.take j ++ (List.replicate X.length 0).drop j).map (Value.int .i64))) ∧ Hid (w.grownBy wr none))
    (fun i _ => X.length - (intOf i).toNat)
  case atStart => exact ⟨0, Nat.zero_le _, rfl, HO, HG⟩
  case round =>
    obtain ⟨j, hj, rfl, HO1, HG1⟩ := hrel
    by_cases hlt : j < X.length
    · rcases HC.out with hX | ⟨b, o, rfl, hc⟩
      · simp [hX] at hlt
      have hcj : wr.cell? ⟨b, o + j, none⟩ = some (.int .i64 (X.getD j 0)) := HG1.out.cell (hc j hlt) (by simp)
      have hf := HO1.out.frozenAt j
      have hd := HO1.out.cellAt j (by omega)
      go_wp2
      go_roundw
      case rel =>
        refine ⟨j + 1, by omega, by go_num, ?_, ?_⟩
        · have hs := own_set HO1.out j (X.getD j 0)
          rw [splice_set (by simp) hlt, show X.getD j 0 = X[j] by simp [hlt]] at hs
          exact hs.1
        · exact grown_new HG1.out (own_set HO1.out j _).2 (fun c h => by injection h with h; omega)
      case measure => simp [intOf]; omega
    · have : j = X.length := by omega
      subst this
      go_wp2
      go_ret
      exact ⟨_, rfl, ⟨by simpa using HO1.out, HW.out⟩, HG1.out⟩

set_option maxHeartbeats 400000 in
theorem eq_any (w : World) (u v : Value) (X Y : List Int) (hu : Sees .i64 w u X) (hv : Sees .i64 w v Y) :
    Calls Tryd.prog 16 #[u, v] w fun e w' => e = .returned (.bool (decide (X = Y))) ∧ w.grownBy w' none := by
  have hl := hu.len
  obtain ⟨a, cap, rfl, _, _, _, hwx, hcell⟩ := hu
  obtain ⟨a2, cap2, rfl, _, _, _, hwy, hcell2⟩ := hv
  have HC := Lib.hid hcell
  have HD := Lib.hid hcell2
  clear hcell hcell2 hwx hwy
  by_cases hxy : X.length = Y.length
  · have HXY := Lib.hid hxy
    go_enter Tryd.func16, Tryd.ntmps16
    go_wp2
    go_loopw [5] (fun i wr => ∃ j : Nat, j ≤ Y.length ∧ i = .int .i64 j ∧ Hid (∀ m, m < j → X.getD m 0 = Y.getD m 0) ∧ Hid (w.grownBy wr none))
      (fun i _ => Y.length - (intOf i).toNat)
    case atStart => exact ⟨0, Nat.zero_le _, rfl, fun m hm => absurd hm (Nat.not_lt_zero _), World.grownBy.refl _ _⟩
    case round =>
      obtain ⟨j, hj, rfl, HE, HG1⟩ := hrel
      by_cases hlt : j < Y.length
      · rcases HC.out with hX | ⟨b, o, rfl, hc⟩
        · simp [hX] at hxy; omega
        rcases HD.out with hX | ⟨b2, o2, rfl, hc2⟩
        · simp [hX] at hlt
        have hcj : wr.cell? ⟨b, o + j, none⟩ = some (.int .i64 (X.getD j 0)) := HG1.out.cell (hc j (by omega)) (by simp)
        have hcj2 : wr.cell? ⟨b2, o2 + j, none⟩ = some (.int .i64 (Y.getD j 0)) := HG1.out.cell (hc2 j (by omega)) (by simp)
        clear hc hc2
        obtain ⟨x, hx⟩ : ∃ x, x = X.getD j 0 := ⟨_, rfl⟩
        obtain ⟨y, hy⟩ : ∃ y, y = Y.getD j 0 := ⟨_, rfl⟩
        rw [← hx] at hcj
        rw [← hy] at hcj2
        have HX := Lib.hid hx
        have HY := Lib.hid hy
        clear hx hy
        by_cases hne : x = y
        · go_wp2
          go_quiet (fail)
          go_wp2
          go_roundw
          case rel =>
            refine ⟨j + 1, by omega, by go_num, fun m hm => ?_, ?_⟩
            · by_cases h : m = j
              · subst h; rw [← HX.out, ← HY.out, hne]
              · exact HE.out m (by omega)
            · exact grown_drewN HG1.out _
          case measure => simp [intOf]; omega
        · go_wp2
          go_quiet (fail)
          go_wp2
          go_ret
          exact ⟨ret_bool (by symm; rw [decide_eq_false_iff_not]; intro h; exact hne (by rw [HX.out, HY.out, h])), grown_drewN HG1.out _⟩
      · go_wp2
        go_ret
        exact ⟨ret_bool (by symm; rw [decide_eq_true_iff]; exact list_same HXY.out (by have := HE.out; intro m hm; exact this m (by omega))), HG1.out⟩
  · go_enter Tryd.func16, Tryd.ntmps16
    go_wp2
    go_ret
    exact ⟨ret_bool (by symm; rw [decide_eq_false_iff_not]; intro h; exact hxy (by rw [h])), World.grownBy.refl _ _⟩

/-- Two rows that read the same. -/
theorem eq_same (w : World) (u v : Value) (X : List Int) (hu : Sees .i64 w u X) (hv : Sees .i64 w v X) :
    Calls Tryd.prog 16 #[u, v] w fun e w' => e = .returned (.bool true) ∧ w.grownBy w' none := by
  have := eq_any w u v X X hu hv
  simpa using this

set_option maxHeartbeats 400000 in
theorem mark_any (w : World) (base : Nat) (v : Value) (X : List Int) (m : Nat) (hv : Own .i64 3 w base v X) (hm : m + X.length ≤ 4000000000000000000) :
    Calls Tryd.prog 19 #[v, .int .i64 m] w fun e w' => e = .returned (.int .i64 ((m + X.length : Nat) : Int)) ∧ Own .i64 3 w' base v (marksI m X.length) ∧ w.grownBy w' v.ownBlock := by
  have hwf : ∀ n ∈ marksI m X.length, (Lit.int .i64 n).wf = true := fun n hn => by
    simp only [marksI, List.mem_map] at hn
    obtain ⟨j, hj, rfl⟩ := hn
    have := List.mem_range.1 hj
    exact i64_mk (by omega)
  have HW := Lib.hid hwf
  have hlen := marksI_len m X.length
  have HL := Lib.hid hlen
  clear hwf hlen
  rcases hv.1.2 with ⟨rfl, hn⟩ | ⟨g, cap, cur, rfl, hb, hg, hnc, hcm, hcs, ht⟩
  · have hX : X = [] := List.eq_nil_of_length_eq_zero hn
    subst hX
    have HV := Lib.hid hv
    clear hv
    go_enter Tryd.func19, Tryd.ntmps19
    go_wp2
    refine wp_loop_rounds 1 ?_
    rw [rounds_succ]
    go_wp2
    go_ret
    exact ⟨rfl, HV.out, World.grownBy.refl _ _⟩
  · have hown : w.ownsRow base 3 1 (.slice (some ⟨g, 0, none⟩) X.length cap) X.length (((marksI m X.length).take 0 ++ X.drop 0).map (Value.int .i64)) := by simpa using hv.1
    have HO := Lib.hid hown
    clear hv hown hg hcm hcs ht hb hnc
    go_enter Tryd.func19, Tryd.ntmps19
    go_wp2
    go_loopw [1, 5] (fun q i wr => ∃ j : Nat, j ≤ X.length ∧ i = .int .i64 j ∧ q = .int .i64 ((m : Int) + j) ∧ Hid (wr.ownsRow base 3 1 (.slice (some ⟨g, 0, none⟩) X.length cap) X.length (((marksI m X.length).take j ++ X.drop j).map (Value.int .i64))) ∧ Hid (w.grownBy wr (some g)))
      (fun _ i _ => X.length - (intOf i).toNat)
    case atStart => exact ⟨0, Nat.zero_le _, rfl, by simp, HO, World.grownBy.refl _ _⟩
    case round =>
      obtain ⟨j, hj, rfl, rfl, HO1, HG1⟩ := hrel
      by_cases hlt : j < X.length
      · have hf := HO1.out.frozenAt j
        have hd := (HO1.out.cellAt j (by omega)).trans (splice_get HL.out (by rw [HL.out]; omega))
        go_wp2
        go_roundw
        case rel =>
          refine ⟨j + 1, by omega, by go_num, by go_num, ?_, ?_⟩
          · have hs := own_set HO1.out j ((marksI m X.length).getD j 0)
            rw [splice_set HL.out (by rw [HL.out]; omega), marksI_get hlt, show ((m + j : Nat) : Int) = (m : Int) + (j : Int) by omega] at hs
            exact hs.1
          · exact grownN_trans HG1.out (own_set HO1.out j _).2
        case measure => simp [intOf]; omega
      · have : j = X.length := by omega
        subst this
        go_wp2
        go_ret
        have hl := HL.out
        have ho := HO1.out
        rw [List.drop_length, List.append_nil, List.take_of_length_le (by omega)] at ho
        exact ⟨by go_num, ⟨by rw [hl]; exact ho, HW.out⟩, HG1.out⟩

set_option maxHeartbeats 400000 in
theorem held_any (w : World) (v : Value) (m n : Nat) (hv : Sees .i64 w v (marksI m n)) (hm : m + n ≤ 4000000000000000000) :
    Calls Tryd.prog 20 #[v, .int .i64 m] w fun e w' => e = .returned (.int .i64 ((m + n : Nat) : Int)) ∧ w.grownBy w' none := by
  obtain ⟨a, cap, rfl, _, _, _, _, hcell⟩ := hv
  have HC := Lib.hid hcell
  clear hcell
  rw [marksI_len]
  go_enter Tryd.func20, Tryd.ntmps20
  go_wp2
  go_loopw [1, 5] (fun q i wr => ∃ j : Nat, j ≤ n ∧ i = .int .i64 j ∧ q = .int .i64 ((m : Int) + j) ∧ Hid (w.grownBy wr none))
    (fun _ i _ => n - (intOf i).toNat)
  case atStart => exact ⟨0, Nat.zero_le _, rfl, by simp, World.grownBy.refl _ _⟩
  case round =>
    obtain ⟨j, hj, rfl, rfl, HG1⟩ := hrel
    by_cases hlt : j < n
    · rcases HC.out with hX | ⟨b, o, rfl, hc⟩
      · have := congrArg List.length hX; rw [marksI_len] at this; simp at this; omega
      have hcj : wr.cell? ⟨b, o + j, none⟩ = some (.int .i64 (((m : Int) + (j : Int)))) := by
        have := HG1.out.cell (hc j (by rw [marksI_len]; omega)) (by simp)
        rwa [marksI_get hlt, show ((m + j : Nat) : Int) = (m : Int) + (j : Int) by omega] at this
      clear hc
      go_wp2
      go_roundw
      case rel => exact ⟨j + 1, by omega, by go_num, by go_num, HG1⟩
      case measure => simp [intOf]; omega
    · have : j = n := by omega
      subst this
      go_wp2
      go_ret
      exact ⟨by go_num, HG1.out⟩
end Go.Proofs.YtdeggdhcleanmaaDoor.LawsI

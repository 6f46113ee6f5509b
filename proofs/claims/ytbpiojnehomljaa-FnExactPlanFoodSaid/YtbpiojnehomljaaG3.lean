/- Contracts of the laws' helpers on rows of ints: copies, comparisons, marks. Contracts of the laws' helpers on lands. -/
import Derived.Test.YtbpiojnehomljaaMBase
import Derived.Deep.QuietTactic
import Derived.BigQuiet
import Derived.Deep.RegionHeld3
namespace Go.Proofs.Ytbpiojnehomljaa.LawsI
open Go.RowKit Kit Rw

theorem info_i64 : (Try.prog.info? 3).map (fun i => (i.zero, i.size, i.bytes)) = some (some (.int .i64 0), 1, 8) := by kernel_rfl

/-- The marks from 'm' on. -/
def marksI (m n : Nat) : List Int := (List.range n).map (fun j => ((m + j : Nat) : Int))
theorem marksI_len (m n : Nat) : (marksI m n).length = n := by simp [marksI]
theorem marksI_get {m n j : Nat} (hj : j < n) : (marksI m n).getD j 0 = ((m + j : Nat) : Int) := by simp [marksI, hj]

theorem list_same {X Y : List Int} (h : X.length = Y.length) (he : ∀ m, m < Y.length → X.getD m 0 = Y.getD m 0) : X = Y := by
  apply List.ext_getElem h
  intro i h1 h2
  have := he i h2
  simpa [h1, h2] using this

set_option maxHeartbeats 400000 in
theorem to_any (w : World) (v : Value) (X : List Int) (hv : Sees .i64 w v X) (hn : X.length ≤ 1000000000000) :
    Calls Try.prog 48 #[v] w fun e w' => ∃ u, e = .returned u ∧ Own .i64 3 w' w.heap.size u X ∧ w.grownBy w' none := by
  have HV := Lib.hid hv
  have HW := Lib.hid hv.wf
  obtain ⟨a, cap, rfl, hlc, hcm, hnil, hwf, hcell⟩ := hv
  have hn1 : X.length ≤ maxLen := by unfold maxLen; omega
  clear hwf hcm hnil
  have HC := Lib.hid hcell
  clear hcell
  obtain ⟨i0, hi, hz0, hz1, hz2⟩ := info_parts info_i64
  go_enter Try.func48, Try.ntmps48
  go_wp2_with (at_make; refine wpList_make_full _ rfl _ _ 22 rfl w.heap.size 3 i0 (.int .i64 0) 1 Try.underlying22 hi hz0 hz1 .i64 .i64 _ _ X.length rfl rfl rfl rfl (by rw [hz2]; omega) hn1 (Nat.le_refl _) ?_; intro w1 hown hgrow)
  have hown : w1.ownsRow w.heap.size 3 1 (.slice (some ⟨w.heap.size, 0, none⟩) X.length X.length) X.length ((X.take 0 ++ (List.replicate X.length 0).drop 0).map (Value.int .i64)) := by
    simpa [toList_madeCells_one, Value.cells] using hown
  have HV1 := Lib.hid (HV.out.grown hgrow)
  have HO := Lib.hid hown
  have HG := Lib.hid hgrow
  clear hown hgrow
  go_loopw [4] (fun i wr => ∃ j : Nat, j ≤ X.length ∧ i = .int .i64 j ∧ Hid (wr.ownsRow w.heap.size 3 1 (.slice (some ⟨w.heap.size, 0, none⟩) X.length X.length) X.length ((X.take j ++ (List.replicate X.length 0).drop j).map (Value.int .i64))) ∧ Hid (w.grownBy wr none))
    (fun i _ => X.length - (intOf i).toNat)
  case atStart => exact ⟨0, Nat.zero_le _, rfl, HO, HG⟩
  case round =>
    obtain ⟨j, hj, rfl, HO1, HG1⟩ := hrel
    by_cases hlt : j < X.length
    · rcases HC.out with hX | ⟨b, o, rfl, hc⟩
      · simp [hX] at hlt
      have hcj : wr.cell? ⟨b, o + j, none⟩ = some (.int .i64 (X.getD j 0)) := HG1.out.cell (hc j hlt) (by simp)
      have hf := HO1.out.frozenAt j
      have hd := HO1.out.cellAt j (by omega)
      go_wp2
      go_roundw
      case rel =>
        refine ⟨j + 1, by omega, by go_num, ?_, ?_⟩
        · have hs := own_set HO1.out j (X.getD j 0)
          rw [splice_set (by simp) hlt, show X.getD j 0 = X[j] by simp [hlt]] at hs
          exact hs.1
        · exact grown_new HG1.out (own_set HO1.out j _).2 (fun c h => by injection h with h; omega)
      case measure => simp [intOf]; omega
    · have : j = X.length := by omega
      subst this
      go_wp2
      go_ret
      exact ⟨_, rfl, ⟨by simpa using HO1.out, HW.out⟩, HG1.out⟩

set_option maxHeartbeats 400000 in
theorem eq_any (w : World) (u v : Value) (X Y : List Int) (hu : Sees .i64 w u X) (hv : Sees .i64 w v Y) :
    Calls Try.prog 16 #[u, v] w fun e w' => e = .returned (.bool (decide (X = Y))) ∧ w.grownBy w' none := by
  have hl := hu.len
  obtain ⟨a, cap, rfl, _, _, _, hwx, hcell⟩ := hu
  obtain ⟨a2, cap2, rfl, _, _, _, hwy, hcell2⟩ := hv
  have HC := Lib.hid hcell
  have HD := Lib.hid hcell2
  clear hcell hcell2 hwx hwy
  by_cases hxy : X.length = Y.length
  · have HXY := Lib.hid hxy
    go_enter Try.func16, Try.ntmps16
    go_wp2
    go_loopw [5] (fun i wr => ∃ j : Nat, j ≤ Y.length ∧ i = .int .i64 j ∧ Hid (∀ m, m < j → X.getD m 0 = Y.getD m 0) ∧ Hid (w.grownBy wr none))
      (fun i _ => Y.length - (intOf i).toNat)
    case atStart => exact ⟨0, Nat.zero_le _, rfl, fun m hm => absurd hm (Nat.not_lt_zero _), World.grownBy.refl _ _⟩
    case round =>
      obtain ⟨j, hj, rfl, HE, HG1⟩ := hrel
      by_cases hlt : j < Y.length
      · rcases HC.out with hX | ⟨b, o, rfl, hc⟩
        · simp [hX] at hxy; omega
        rcases HD.out with hX | ⟨b2, o2, rfl, hc2⟩
        · simp [hX] at hlt
        have hcj : wr.cell? ⟨b, o + j, none⟩ = some (.int .i64 (X.getD j 0)) := HG1.out.cell (hc j (by omega)) (by simp)
        have hcj2 : wr.cell? ⟨b2, o2 + j, none⟩ = some (.int .i64 (Y.getD j 0)) := HG1.out.cell (hc2 j (by omega)) (by simp)
        clear hc hc2
        obtain ⟨x, hx⟩ : ∃ x, x = X.getD j 0 := ⟨_, rfl⟩
        obtain ⟨y, hy⟩ : ∃ y, y = Y.getD j 0 := ⟨_, rfl⟩
        rw [← hx] at hcj
        rw [← hy] at hcj2
        have HX := Lib.hid hx
        have HY := Lib.hid hy
        clear hx hy
        by_cases hne : x = y
        · go_wp2
          go_quiet (fail)
          go_wp2
          go_roundw
          case rel =>
            refine ⟨j + 1, by omega, by go_num, fun m hm => ?_, ?_⟩
            · by_cases h : m = j
              · subst h; rw [← HX.out, ← HY.out, hne]
              · exact HE.out m (by omega)
            · exact grown_drewN HG1.out _
          case measure => simp [intOf]; omega
        · go_wp2
          go_quiet (fail)
          go_wp2
          go_ret
          exact ⟨ret_bool (by symm; rw [decide_eq_false_iff_not]; intro h; exact hne (by rw [HX.out, HY.out, h])), grown_drewN HG1.out _⟩
      · go_wp2
        go_ret
        exact ⟨ret_bool (by symm; rw [decide_eq_true_iff]; exact list_same HXY.out (by have := HE.out; intro m hm; exact this m (by omega))), HG1.out⟩
  · go_enter Try.func16, Try.ntmps16
    go_wp2
    go_ret
    exact ⟨ret_bool (by symm; rw [decide_eq_false_iff_not]; intro h; exact hxy (by rw [h])), World.grownBy.refl _ _⟩

/-- Two rows that read the same. -/
theorem eq_same (w : World) (u v : Value) (X : List Int) (hu : Sees .i64 w u X) (hv : Sees .i64 w v X) :
    Calls Try.prog 16 #[u, v] w fun e w' => e = .returned (.bool true) ∧ w.grownBy w' none := by
  have := eq_any w u v X X hu hv
  simpa using this

set_option maxHeartbeats 400000 in
theorem mark_any (w : World) (base : Nat) (v : Value) (X : List Int) (m : Nat) (hv : Own .i64 3 w base v X) (hm : m + X.length ≤ 4000000000000000000) :
    Calls Try.prog 21 #[v, .int .i64 m] w fun e w' => e = .returned (.int .i64 ((m + X.length : Nat) : Int)) ∧ Own .i64 3 w' base v (marksI m X.length) ∧ w.grownBy w' v.ownBlock := by
  have hwf : ∀ n ∈ marksI m X.length, (Lit.int .i64 n).wf = true := fun n hn => by
    simp only [marksI, List.mem_map] at hn
    obtain ⟨j, hj, rfl⟩ := hn
    have := List.mem_range.1 hj
    exact i64_mk (by omega)
  have HW := Lib.hid hwf
  have hlen := marksI_len m X.length
  have HL := Lib.hid hlen
  clear hwf hlen
  rcases hv.1.2 with ⟨rfl, hn⟩ | ⟨g, cap, cur, rfl, hb, hg, hnc, hcm, hcs, ht⟩
  · have hX : X = [] := List.eq_nil_of_length_eq_zero hn
    subst hX
    have HV := Lib.hid hv
    clear hv
    go_enter Try.func21, Try.ntmps21
    go_wp2
    refine wp_loop_rounds 1 ?_
    rw [rounds_succ]
    go_wp2
    go_ret
    exact ⟨rfl, HV.out, World.grownBy.refl _ _⟩
  · have hown : w.ownsRow base 3 1 (.slice (some ⟨g, 0, none⟩) X.length cap) X.length (((marksI m X.length).take 0 ++ X.drop 0).map (Value.int .i64)) := by simpa using hv.1
    have HO := Lib.hid hown
    clear hv hown hg hcm hcs ht hb hnc
    go_enter Try.func21, Try.ntmps21
    go_wp2
    go_loopw [1, 5] (fun q i wr => ∃ j : Nat, j ≤ X.length ∧ i = .int .i64 j ∧ q = .int .i64 ((m : Int) + j) ∧ Hid (wr.ownsRow base 3 1 (.slice (some ⟨g, 0, none⟩) X.length cap) X.length (((marksI m X.length).take j ++ X.drop j).map (Value.int .i64))) ∧ Hid (w.grownBy wr (some g)))
      (fun _ i _ => X.length - (intOf i).toNat)
    case atStart => exact ⟨0, Nat.zero_le _, rfl, by simp, HO, World.grownBy.refl _ _⟩
    case round =>
      obtain ⟨j, hj, rfl, rfl, HO1, HG1⟩ := hrel
      by_cases hlt : j < X.length
      · have hf := HO1.out.frozenAt j
        have hd := (HO1.out.cellAt j (by omega)).trans (splice_get HL.out (by rw [HL.out]; omega))
        go_wp2
        go_roundw
        case rel =>
          refine ⟨j + 1, by omega, by go_num, by go_num, ?_, ?_⟩
          · have hs := own_set HO1.out j ((marksI m X.length).getD j 0)
            rw [splice_set HL.out (by rw [HL.out]; omega), marksI_get hlt, show ((m + j : Nat) : Int) = (m : Int) + (j : Int) by omega] at hs
            exact hs.1
          · exact grownN_trans HG1.out (own_set HO1.out j _).2
        case measure => simp [intOf]; omega
      · have : j = X.length := by omega
        subst this
        go_wp2
        go_ret
        have hl := HL.out
        have ho := HO1.out
        rw [List.drop_length, List.append_nil, List.take_of_length_le (by omega)] at ho
        exact ⟨by go_num, ⟨by rw [hl]; exact ho, HW.out⟩, HG1.out⟩

set_option maxHeartbeats 400000 in
theorem held_any (w : World) (v : Value) (m n : Nat) (hv : Sees .i64 w v (marksI m n)) (hm : m + n ≤ 4000000000000000000) :
    Calls Try.prog 22 #[v, .int .i64 m] w fun e w' => e = .returned (.int .i64 ((m + n : Nat) : Int)) ∧ w.grownBy w' none := by
  obtain ⟨a, cap, rfl, _, _, _, _, hcell⟩ := hv
  have HC := Lib.hid hcell
  clear hcell
  rw [marksI_len]
  go_enter Try.func22, Try.ntmps22
  go_wp2
  go_loopw [1, 5] (fun q i wr => ∃ j : Nat, j ≤ n ∧ i = .int .i64 j ∧ q = .int .i64 ((m : Int) + j) ∧ Hid (w.grownBy wr none))
    (fun _ i _ => n - (intOf i).toNat)
  case atStart => exact ⟨0, Nat.zero_le _, rfl, by simp, World.grownBy.refl _ _⟩
  case round =>
    obtain ⟨j, hj, rfl, rfl, HG1⟩ := hrel
    by_cases hlt : j < n
    · rcases HC.out with hX | ⟨b, o, rfl, hc⟩
      · have := congrArg List.length hX; rw [marksI_len] at this; simp at this; omega
      have hcj : wr.cell? ⟨b, o + j, none⟩ = some (.int .i64 (((m : Int) + (j : Int)))) := by
        have := HG1.out.cell (hc j (by rw [marksI_len]; omega)) (by simp)
        rwa [marksI_get hlt, show ((m + j : Nat) : Int) = (m : Int) + (j : Int) by omega] at this
      clear hc
      go_wp2
      go_roundw
      case rel => exact ⟨j + 1, by omega, by go_num, by go_num, HG1⟩
      case measure => simp [intOf]; omega
    · have : j = n := by omega
      subst this
      go_wp2
      go_ret
      exact ⟨by go_num, HG1.out⟩
end Go.Proofs.Ytbpiojnehomljaa.LawsI

namespace Go.Proofs.Ytbpiojnehomljaa.LandL
open Go.RowKit Kit Rw LawsI

/-- What is left of a bound after n values. -/
def szv (left : Int) (n : Nat) : Int := if (n : Int) ≤ left then left - n else -1
theorem szv_ok {left : Int} {n : Nat} (h : (n : Int) ≤ left) : szv left n = left - n := if_pos h
theorem szv_no {left : Int} {n : Nat} (h : ¬ (n : Int) ≤ left) : szv left n = -1 := if_neg h

theorem szIntS_any (w : World) (v : Value) (X : List Int) (left : Int) (hv : Sees .i64 w v X) (hl : 0 ≤ left) (hl' : left ≤ 1048576) :
    Calls Try.prog 45 #[v, .int .i64 left] w fun e w' => e = .returned (.int .i64 (szv left X.length)) ∧ w = w' := by
  have hlen := hv.len
  obtain ⟨a, cap, rfl, _⟩ := hv
  by_cases h : (X.length : Int) ≤ left
  · rw [szv_ok h]
    go_enter Try.func45, Try.ntmps45
    go_wp2
    go_ret
    exact ⟨rfl, rfl⟩
  · rw [szv_no h]
    have h2 : left - (X.length : Int) < 0 := by omega
    go_enter Try.func45, Try.ntmps45
    go_wp2
    go_ret
    exact ⟨rfl, rfl⟩

set_option maxHeartbeats 400000 in
theorem szLand_any (w : World) (W H : Int) (v : Value) (X : List Int) (left : Int) (hv : Sees .i64 w v X) (hl : 0 ≤ left) (hl' : left ≤ 1048576) :
    Calls Try.prog 10 #[.agg #[.int .i64 W, .int .i64 H, v], .int .i64 left] w fun e w' => e = .returned (.int .i64 (szv left X.length)) ∧ w.grownBy w' none := by
  have HG := Lib.hid (World.grownBy_alloc w (.cells #[.int .i64 W, .int .i64 H, v] 24 (0, 0)) none)
  have HV := Lib.hid (hv.grown HG.out)
  obtain ⟨c0, c1, c2⟩ := (box_new w #[.int .i64 W, .int .i64 H, v] 24).three
  clear hv
  by_cases h : (X.length : Int) ≤ left
  · have HSZ := Lib.hid (szv_ok h)
    have h0 : 0 ≤ szv left X.length := by rw [HSZ.out]; omega
    go_enter Try.func10, Try.ntmps10
    go_wp2_with fail
    refine (szIntS_any _ v X left HV.out hl hl').mono ?_
    rintro e w' ⟨rfl, rfl⟩
    go_wp2
    go_ret
    exact ⟨rfl, HG.out⟩
  · have HSZ := Lib.hid (szv_no h)
    have h0 : szv left X.length < 0 := by rw [HSZ.out]; omega
    go_enter Try.func10, Try.ntmps10
    go_wp2_with fail
    refine (szIntS_any _ v X left HV.out hl hl').mono ?_
    rintro e w' ⟨rfl, rfl⟩
    go_wp2
    go_ret
    exact ⟨ret_i64 HSZ.out.symm, HG.out⟩

theorem szLand_yes (w : World) (W H : Int) (v : Value) (X : List Int) (left : Int) (hv : Sees .i64 w v X) (h : (X.length : Int) ≤ left) (hl : 0 ≤ left) (hl' : left ≤ 1048576) :
    Calls Try.prog 10 #[.agg #[.int .i64 W, .int .i64 H, v], .int .i64 left] w fun e w' => e = .returned (.int .i64 (left - (X.length : Int))) ∧ w.grownBy w' none := by
  have := szLand_any w W H v X left hv hl hl'; rwa [szv_ok h] at this
theorem szLand_no (w : World) (W H : Int) (v : Value) (X : List Int) (left : Int) (hv : Sees .i64 w v X) (h : ¬ (X.length : Int) ≤ left) (hl : 0 ≤ left) (hl' : left ≤ 1048576) :
    Calls Try.prog 10 #[.agg #[.int .i64 W, .int .i64 H, v], .int .i64 left] w fun e w' => e = .returned (.int .i64 (-1)) ∧ w.grownBy w' none := by
  have := szLand_any w W H v X left hv hl hl'; rwa [szv_no h] at this

set_option maxHeartbeats 400000 in
theorem toLand_any (w : World) (W H : Int) (v : Value) (X : List Int) (hv : Sees .i64 w v X) (hn : X.length ≤ 1000000000000) :
    Calls Try.prog 13 #[.agg #[.int .i64 W, .int .i64 H, v]] w fun e w' => ∃ u, e = .returned (.agg #[.int .i64 W, .int .i64 H, u]) ∧ Own .i64 3 w' w.heap.size u X ∧ w.grownBy w' none := by
  have b1 := box_new (w.alloc (.cells #[.int .i64 W, .int .i64 H, v] 24 (0, 0))) #[.int .i64 0, .int .i64 0, .slice none 0 0] 29
  have b2 := box_new ((w.alloc (.cells #[.int .i64 W, .int .i64 H, v] 24 (0, 0))).alloc (.cells #[.int .i64 0, .int .i64 0, .slice none 0 0] 29 (0, 0))) #[.int .i64 W, .int .i64 H, .slice none 0 0] 29
  have b1' := b1.grown (World.grownBy_alloc _ (.cells #[.int .i64 W, .int .i64 H, .slice none 0 0] 29 (0, 0)) none)
  simp only [World.size_alloc] at b1' b2
  have HG := Lib.hid (grownN_trans (grownN_trans (World.grownBy_alloc w (.cells #[.int .i64 W, .int .i64 H, v] 24 (0, 0)) none) (World.grownBy_alloc _ (.cells #[.int .i64 0, .int .i64 0, .slice none 0 0] 29 (0, 0)) none)) (World.grownBy_alloc _ (.cells #[.int .i64 W, .int .i64 H, .slice none 0 0] 29 (0, 0)) none))
  have HV := Lib.hid (hv.grown HG.out)
  have B1 := Lib.hid b1'
  have B2 := Lib.hid b2
  clear hv b1 b2 b1'
  go_enter Try.func13, Try.ntmps13
  go_wp2_with fail
  generalize ((w.alloc (.cells #[.int .i64 W, .int .i64 H, v] 24 (0, 0))).alloc (.cells #[.int .i64 0, .int .i64 0, .slice none 0 0] 29 (0, 0))).alloc (.cells #[.int .i64 W, .int .i64 H, .slice none 0 0] 29 (0, 0)) = W3 at *
  refine (to_any W3 v X HV.out hn).mono ?_
  rintro e w4 ⟨u, rfl, ho, hg⟩
  have HO := Lib.hid ho
  have HG4 := Lib.hid (grownN_trans HG.out hg)
  have B14 := Lib.hid (B1.out.grown hg)
  have B24 := Lib.hid (B2.out.grown hg)
  have h3 : w.heap.size + 1 + 1 < W3.heap.size := B2.out.lt
  have H3 := Lib.hid h3
  clear ho hg h3
  obtain ⟨ua, un, uc, hu, HUN⟩ := HO.out.sees.shape
  subst hu
  obtain ⟨c10, c11, c12⟩ := B14.out.three
  obtain ⟨c20, c21, c22⟩ := B24.out.three
  have f10 := B14.out.free 0
  have f11 := B14.out.free 1
  have f12 := B14.out.free 2
  have f22 := B24.out.free 2
  go_wp2
  have h3 := H3.out
  have hb : Below w.heap.size w w4 := grown_below HG4.out _ (Nat.le_refl _)
  refine bodyPost_ret (v := .agg #[.int .i64 W, .int .i64 H, .slice ua un uc]) ?_ rfl ⟨_, rfl, ?_, ?_⟩
  · simp [results, Try.results13, go_sem, c10, c11, c12]
  · exact ((((HO.out.set (by omega) _ _).set (by omega) _ _).set (by omega) _ _).set (by omega) _ _).lower (by omega)
  · exact below_grown ((((hb.setCell (by simp; omega) _).setCell (by simp) _).setCell (by simp) _).setCell (by simp) _)

set_option maxHeartbeats 400000 in
theorem eqLand_same (w : World) (W H : Int) (u v : Value) (X : List Int) (hu : Sees .i64 w u X) (hv : Sees .i64 w v X) :
    Calls Try.prog 17 #[.agg #[.int .i64 W, .int .i64 H, u], .agg #[.int .i64 W, .int .i64 H, v]] w fun e w' => e = .returned (.bool true) ∧ w.grownBy w' none := by
  have HG := Lib.hid (grownN_trans (World.grownBy_alloc w (.cells #[.int .i64 W, .int .i64 H, u] 29 (0, 0)) none) (World.grownBy_alloc _ (.cells #[.int .i64 W, .int .i64 H, v] 29 (0, 0)) none))
  have HU := Lib.hid (hu.grown HG.out)
  have HV := Lib.hid (hv.grown HG.out)
  clear hu hv
  go_enter Try.func17, Try.ntmps17
  go_wp2_with fail
  refine (eq_same _ u v X HU.out HV.out).mono ?_
  rintro e w3 ⟨rfl, hg⟩
  have HG3 := Lib.hid (grownN_trans HG.out hg)
  clear hg
  go_wp2
  go_ret
  exact ⟨rfl, HG3.out⟩

set_option maxHeartbeats 400000 in
theorem markLand_any (w : World) (base : Nat) (W H : Int) (v : Value) (X : List Int) (m : Nat) (hv : Own .i64 3 w base v X) (hm : m + X.length ≤ 4000000000000000000) :
    Calls Try.prog 19 #[.agg #[.int .i64 W, .int .i64 H, v], .int .i64 m] w fun e w' => e = .returned (.int .i64 ((m + X.length : Nat) : Int)) ∧ Own .i64 3 w' base v (marksI m X.length) ∧ w.grownBy w' v.ownBlock := by
  have HG := Lib.hid (World.grownBy_alloc w (.cells #[.int .i64 W, .int .i64 H, v] 29 (0, 0)) none)
  have HV := Lib.hid (hv.grown HG.out)
  clear hv
  go_enter Try.func19, Try.ntmps19
  go_wp2_with fail
  refine (mark_any _ base v X m HV.out hm).mono ?_
  rintro e w3 ⟨rfl, ho, hg⟩
  have HO := Lib.hid ho
  have HG3 : Hid (w.grownBy w3 v.ownBlock) := grown_old' HG.out hg
  clear ho hg
  go_wp2
  go_ret
  exact ⟨rfl, HO.out, HG3.out⟩

end Go.Proofs.Ytbpiojnehomljaa.LandL

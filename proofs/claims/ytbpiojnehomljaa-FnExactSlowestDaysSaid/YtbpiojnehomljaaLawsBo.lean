/- Contracts of the laws' helpers on rows of bools: copies, comparisons, marks, sizes. -/
import Derived.Test.YtbpiojnehomljaaRowE
import Derived.Test.YtbpiojnehomljaaMk3
import Derived.IntWalk
import Derived.Deep.QuietTactic
import Derived.BigQuiet
namespace Go.Proofs.Ytbpiojnehomljaa.LawsBo
open Go.RowKit Kit Rw Rg

theorem info_bool : (Try.prog.info? 4).map (fun i => (i.zero, i.size, i.bytes)) = some (some (.bool false), 1, 1) := by kernel_rfl

/-- The marks from 'm' on. -/
def marksB (m n : Nat) : List Bool := (List.range n).map (fun j => mk3 (m + j))
theorem marksB_len (m n : Nat) : (marksB m n).length = n := by simp [marksB]
theorem marksB_get {m n j : Nat} (hj : j < n) : (marksB m n).getD j false = mk3 (m + j) := by simp [marksB, hj]
set_option maxHeartbeats 400000 in
theorem to_any (w : World) (v : Value) (X : List Bool) (hv : SeesG encB w v X) (hn : X.length ≤ 1000000000000) :
    Calls Try.prog 32 #[v] w fun e w' => ∃ u, e = .returned u ∧ OwnG encB 4 w' w.heap.size u X ∧ w.grownBy w' none := by
  have HV := Lib.hid hv
  obtain ⟨a, cap, rfl, hlc, hcm, hnil, hwf, hcell⟩ := hv
  have hn1 : X.length ≤ maxLen := by unfold maxLen; omega
  clear hwf hcm hnil hcell
  obtain ⟨i0, hi, hz0, hz1, hz2⟩ := info_parts info_bool
  go_enter Try.func32, Try.ntmps32
  go_wp2_with (at_make; refine wpListG_make (e := encB) _ rfl _ _ 44 rfl w.heap.size 4 i0 (.bool false) 1 Try.underlying44 hi hz0 hz1 hz2 rfl trivial .i64 .i64 _ _ X.length rfl rfl rfl rfl (by omega) hn1 (Nat.le_refl _) ?_; intro w1 hown hgrow)
  obtain ⟨Z, hZ⟩ : ∃ Z : List Bool, Z = List.replicate X.length encB.dflt := ⟨_, rfl⟩
  have hown : OwnG encB 4 w1 w.heap.size (.slice (some ⟨w.heap.size, 0, none⟩) X.length X.length) (X.take 0 ++ Z.drop 0) := by
    rw [hZ]; simpa using hown
  have hZl : Hid (X.length = Z.length) := by show _ = _; rw [hZ]; simp
  have HO := Lib.hid hown
  have HG := Lib.hid hgrow
  clear hown hgrow hZ
  go_loopw [4] (fun i wr => ∃ j : Nat, j ≤ X.length ∧ i = .int .i64 j ∧ Hid (OwnG encB 4 wr w.heap.size (.slice (some ⟨w.heap.size, 0, none⟩) X.length X.length) (X.take j ++ Z.drop j)) ∧ Hid (w.grownBy wr none))
    (fun i _ => X.length - (intOf i).toNat)
  case atStart => exact ⟨0, Nat.zero_le _, rfl, HO, HG⟩
  case round =>
    obtain ⟨j, hj, rfl, HO1, HG1⟩ := hrel
    by_cases hlt : j < X.length
    · obtain ⟨b, o, rfl, hb, hcj0⟩ := HV.out.at_rowB hlt
      have hcj : wr.cell? ⟨b, o + j, none⟩ = some (.bool (X.getD j false)) := HG1.out.cell hcj0 (by simp)
      clear hcj0
      have hf := HO1.out.free j
      have hd : wr.cell? ⟨w.heap.size, j, none⟩ = some (.bool (Z.getD j false)) := by
        have := HO1.out.cellAt (j := j) (by rw [spliceG_len hZl.out hj]; exact hlt) (i := 0) (by decide)
        rw [spliceG_get hZl.out hlt] at this
        simpa [encB] using this
      obtain ⟨x, hx⟩ : ∃ x, x = X.getD j false := ⟨_, rfl⟩
      obtain ⟨z, hz⟩ : ∃ z, z = Z.getD j false := ⟨_, rfl⟩
      rw [← hx] at hcj
      rw [← hz] at hd
      have HX := Lib.hid hx
      clear hx hz
      go_wp2
      go_roundw
      case rel =>
        have hp := HO1.out.put (spliceG_len hZl.out hj) (j := j) (i := 0) (u := .bool x) (x := x) (by rw [spliceG_len hZl.out hj]; exact hlt) (by decide) rfl trivial
        rw [HX.out, spliceG_set hZl.out hlt] at hp
        simp only [encB, Nat.mul_one, Nat.add_zero] at hp
        refine ⟨j + 1, by omega, by go_num, ?_, ?_⟩
        · rw [HX.out]; exact hp.1
        · rw [HX.out]; exact grown_new HG1.out hp.2 (fun c h => by injection h with h; omega)
      case measure => simp [intOf]; omega
    · have : j = X.length := by omega
      subst this
      go_wp2
      go_ret
      exact ⟨_, rfl, by have h := HO1.out; rw [List.take_length, hZl.out, List.drop_length, List.append_nil] at h; rw [hZl.out]; exact h, HG1.out⟩

set_option maxHeartbeats 400000 in
theorem eq_any (w : World) (u v : Value) (X Y : List Bool) (hu : SeesG encB w u X) (hv : SeesG encB w v Y) :
    Calls Try.prog 34 #[u, v] w fun e w' => e = .returned (.bool (decide (X = Y))) ∧ w.grownBy w' none := by
  have hl := hu.len
  have HU := Lib.hid hu
  have HV := Lib.hid hv
  obtain ⟨a, cap, rfl, _⟩ := hu
  obtain ⟨a2, cap2, rfl, _⟩ := hv
  by_cases hxy : X.length = Y.length
  · have HXY := Lib.hid hxy
    go_enter Try.func34, Try.ntmps34
    go_wp2
    go_loopw [5] (fun i wr => ∃ j : Nat, j ≤ Y.length ∧ i = .int .i64 j ∧ Hid (∀ m, m < j → X.getD m false = Y.getD m false) ∧ Hid (w.grownBy wr none))
      (fun i _ => Y.length - (intOf i).toNat)
    case atStart => exact ⟨0, Nat.zero_le _, rfl, fun m hm => absurd hm (Nat.not_lt_zero _), World.grownBy.refl _ _⟩
    case round =>
      obtain ⟨j, hj, rfl, HE, HG1⟩ := hrel
      by_cases hlt : j < Y.length
      · obtain ⟨b, o, rfl, _, hc⟩ := HU.out.at_rowB (j := j) (by omega)
        obtain ⟨b2, o2, rfl, _, hc2⟩ := HV.out.at_rowB hlt
        have hcj : wr.cell? ⟨b, o + j, none⟩ = some (.bool (X.getD j false)) := HG1.out.cell hc (by simp)
        have hcj2 : wr.cell? ⟨b2, o2 + j, none⟩ = some (.bool (Y.getD j false)) := HG1.out.cell hc2 (by simp)
        clear hc hc2
        obtain ⟨x, hx⟩ : ∃ x, x = X.getD j false := ⟨_, rfl⟩
        obtain ⟨y, hy⟩ : ∃ y, y = Y.getD j false := ⟨_, rfl⟩
        rw [← hx] at hcj
        rw [← hy] at hcj2
        have HX := Lib.hid hx
        have HY := Lib.hid hy
        clear hx hy
        by_cases hne : x = y
        · subst hne
          cases x <;>
          · go_wp2
            go_quiet (fail)
            go_wp2
            go_roundw
            case rel =>
              refine ⟨j + 1, by omega, by go_num, fun m hm => ?_, ?_⟩
              · by_cases h : m = j
                · subst h; rw [← HX.out, ← HY.out]
                · exact HE.out m (by omega)
              · exact grown_drewN HG1.out _
            case measure => simp [intOf]; omega
        · have HN : Hid (decide (X = Y) = false) := by
            show _ = _
            rw [decide_eq_false_iff_not]; intro h; exact hne (by rw [HX.out, HY.out, h])
          cases x <;> cases y <;> first | exact absurd rfl hne | skip
          all_goals
            clear hne
            go_wp2
            go_quiet (fail)
            go_wp2
            go_ret
            exact ⟨ret_bool HN.out.symm, grown_drewN HG1.out _⟩
      · go_wp2
        go_ret
        exact ⟨ret_bool (by symm; rw [decide_eq_true_iff]; exact listG_same false HXY.out (by have := HE.out; intro m hm; exact this m (by omega))), HG1.out⟩
  · go_enter Try.func34, Try.ntmps34
    go_wp2
    go_ret
    exact ⟨ret_bool (by symm; rw [decide_eq_false_iff_not]; intro h; exact hxy (by rw [h])), World.grownBy.refl _ _⟩
theorem eq_same (w : World) (u v : Value) (X : List Bool) (hu : SeesG encB w u X) (hv : SeesG encB w v X) :
    Calls Try.prog 34 #[u, v] w fun e w' => e = .returned (.bool true) ∧ w.grownBy w' none := by
  have := eq_any w u v X X hu hv
  simpa using this

end Go.Proofs.Ytbpiojnehomljaa.LawsBo

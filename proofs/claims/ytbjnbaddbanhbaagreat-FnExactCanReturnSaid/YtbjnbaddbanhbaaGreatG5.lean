/- Contracts of the laws' helpers on rows of bools: copies, comparisons, marks, sizes. Contract of the laws' helper on the size of a row of bools. Plain facts on pasts and rules: no program. -/
import Derived.Test.YtbjnbaddbanhbaaGreatG2
import Derived.Test.YtbjnbaddbanhbaaGreatG3
import Derived.IntWalk
import Derived.Deep.QuietTactic
import Derived.BigQuiet
import Derived.Test.YtbjnbaddbanhbaaGreatG1
namespace Go.Proofs.YtbjnbaddbanhbaaGreat.LawsBo
open Go.RowKit Kit Rw Rg

theorem info_bool : (Tryz.prog.info? 4).map (fun i => (i.zero, i.size, i.bytes)) = some (some (.bool false), 1, 1) := by kernel_rfl

/-- The marks from 'm' on. -/
def marksB (m n : Nat) : List Bool := (List.range n).map (fun j => mk3 (m + j))
theorem marksB_len (m n : Nat) : (marksB m n).length = n := by simp [marksB]
theorem marksB_get {m n j : Nat} (hj : j < n) : (marksB m n).getD j false = mk3 (m + j) := by simp [marksB, hj]
set_option maxHeartbeats 400000 in
theorem to_any (w : World) (v : Value) (X : List Bool) (hv : SeesG encB w v X) (hn : X.length ≤ 1000000000000) :
    Calls Tryz.prog 37 #[v] w fun e w' => ∃ u, e = .returned u ∧ OwnG encB 4 w' w.heap.size u X ∧ w.grownBy w' none := by
  have HV := Lib.hid hv
  obtain ⟨a, cap, rfl, hlc, hcm, hnil, hwf, hcell⟩ := hv
  have hn1 : X.length ≤ maxLen := by unfold maxLen; omega
  clear hwf hcm hnil hcell
  obtain ⟨i0, hi, hz0, hz1, hz2⟩ := info_parts info_bool
  go_enter Tryz.func37, Tryz.ntmps37
  go_wp2_with (at_make; refine wpListG_make (e := encB) _ rfl _ _ 29 rfl w.heap.size 4 i0 (.bool false) 1 Tryz.underlying29 hi hz0 hz1 hz2 rfl trivial .i64 .i64 _ _ X.length rfl rfl rfl rfl (by omega) hn1 (Nat.le_refl _) ?_; intro w1 hown hgrow)
  obtain ⟨Z, hZ⟩ : ∃ Z : List Bool, Z = List.replicate X.length encB.dflt := ⟨_, rfl⟩
  have hown : OwnG encB 4 w1 w.heap.size (.slice (some ⟨w.heap.size, 0, none⟩) X.length X.length) (X.take 0 ++ Z.drop 0) := by
    rw [hZ]; simpa using hown
  have hZl : Hid (X.length = Z.length) := by show _ = _; rw [hZ]; simp
  have HO := Lib.hid hown
  have HG := Lib.hid hgrow
  clear hown hgrow hZ
  go_loopw [4] (fun i wr => ∃ j : Nat, j ≤ X.length ∧ i = .int .i64 j ∧ Hid (OwnG encB 4 wr w.heap.size (.slice (some ⟨w.heap.size, 0, none⟩) X.length X.length) (X.take j ++ Z.drop j)) ∧ Hid (w.grownBy wr none))
    (fun i _ => X.length - (intOf i).toNat)
  case atStart => exact ⟨0, Nat.zero_le _, rfl, HO, HG⟩
  case round =>
    obtain ⟨j, hj, rfl, HO1, HG1⟩ := hrel
    by_cases hlt : j < X.length
    · obtain ⟨b, o, rfl, hb, hcj0⟩ := HV.out.at_rowB hlt
      have hcj : wr.cell? ⟨b, o + j, none⟩ = some (.bool (X.getD j false)) := HG1.out.cell hcj0 (by simp)
      clear hcj0
      have hf := HO1.out.free j
      have hd : wr.cell? ⟨w.heap.size, j, none⟩ = some (.bool (Z.getD j false)) := by
        have := HO1.out.cellAt (j := j) (by rw [spliceG_len hZl.out hj]; exact hlt) (i := 0) (by decide)
        rw [spliceG_get hZl.out hlt] at this
        simpa [encB] using this
      obtain ⟨x, hx⟩ : ∃ x, x = X.getD j false := ⟨_, rfl⟩
      obtain ⟨z, hz⟩ : ∃ z, z = Z.getD j false := ⟨_, rfl⟩
      rw [← hx] at hcj
      rw [← hz] at hd
      have HX := Lib.hid hx
      clear hx hz
      go_wp2
      go_roundw
      case rel =>
        have hp := HO1.out.put (spliceG_len hZl.out hj) (j := j) (i := 0) (u := .bool x) (x := x) (by rw [spliceG_len hZl.out hj]; exact hlt) (by decide) rfl trivial
        rw [HX.out, spliceG_set hZl.out hlt] at hp
        simp only [encB, Nat.mul_one, Nat.add_zero] at hp
        refine ⟨j + 1, by omega, by go_num, ?_, ?_⟩
        · rw [HX.out]; exact hp.1
        · rw [HX.out]; exact grown_new HG1.out hp.2 (fun c h => by injection h with h; omega)
      case measure => simp [intOf]; omega
    · have : j = X.length := by omega
      subst this
      go_wp2
      go_ret
      exact ⟨_, rfl, by have h := HO1.out; rw [List.take_length, hZl.out, List.drop_length, List.append_nil] at h; rw [hZl.out]; exact h, HG1.out⟩

set_option maxHeartbeats 400000 in
theorem eq_any (w : World) (u v : Value) (X Y : List Bool) (hu : SeesG encB w u X) (hv : SeesG encB w v Y) :
    Calls Tryz.prog 39 #[u, v] w fun e w' => e = .returned (.bool (decide (X = Y))) ∧ w.grownBy w' none := by
  have hl := hu.len
  have HU := Lib.hid hu
  have HV := Lib.hid hv
  obtain ⟨a, cap, rfl, _⟩ := hu
  obtain ⟨a2, cap2, rfl, _⟩ := hv
  by_cases hxy : X.length = Y.length
  · have HXY := Lib.hid hxy
    go_enter Tryz.func39, Tryz.ntmps39
    go_wp2
    go_loopw [5] (fun i wr => ∃ j : Nat, j ≤ Y.length ∧ i = .int .i64 j ∧ Hid (∀ m, m < j → X.getD m false = Y.getD m false) ∧ Hid (w.grownBy wr none))
      (fun i _ => Y.length - (intOf i).toNat)
    case atStart => exact ⟨0, Nat.zero_le _, rfl, fun m hm => absurd hm (Nat.not_lt_zero _), World.grownBy.refl _ _⟩
    case round =>
      obtain ⟨j, hj, rfl, HE, HG1⟩ := hrel
      by_cases hlt : j < Y.length
      · obtain ⟨b, o, rfl, _, hc⟩ := HU.out.at_rowB (j := j) (by omega)
        obtain ⟨b2, o2, rfl, _, hc2⟩ := HV.out.at_rowB hlt
        have hcj : wr.cell? ⟨b, o + j, none⟩ = some (.bool (X.getD j false)) := HG1.out.cell hc (by simp)
        have hcj2 : wr.cell? ⟨b2, o2 + j, none⟩ = some (.bool (Y.getD j false)) := HG1.out.cell hc2 (by simp)
        clear hc hc2
        obtain ⟨x, hx⟩ : ∃ x, x = X.getD j false := ⟨_, rfl⟩
        obtain ⟨y, hy⟩ : ∃ y, y = Y.getD j false := ⟨_, rfl⟩
        rw [← hx] at hcj
        rw [← hy] at hcj2
        have HX := Lib.hid hx
        have HY := Lib.hid hy
        clear hx hy
        by_cases hne : x = y
        · subst hne
          cases x <;>
          · go_wp2
            go_quiet (fail)
            go_wp2
            go_roundw
            case rel =>
              refine ⟨j + 1, by omega, by go_num, fun m hm => ?_, ?_⟩
              · by_cases h : m = j
                · subst h; rw [← HX.out, ← HY.out]
                · exact HE.out m (by omega)
              · exact grown_drewN HG1.out _
            case measure => simp [intOf]; omega
        · have HN : Hid (decide (X = Y) = false) := by
            show _ = _
            rw [decide_eq_false_iff_not]; intro h; exact hne (by rw [HX.out, HY.out, h])
          cases x <;> cases y <;> first | exact absurd rfl hne | skip
          all_goals
            clear hne
            go_wp2
            go_quiet (fail)
            go_wp2
            go_ret
            exact ⟨ret_bool HN.out.symm, grown_drewN HG1.out _⟩
      · go_wp2
        go_ret
        exact ⟨ret_bool (by symm; rw [decide_eq_true_iff]; exact listG_same false HXY.out (by have := HE.out; intro m hm; exact this m (by omega))), HG1.out⟩
  · go_enter Tryz.func39, Tryz.ntmps39
    go_wp2
    go_ret
    exact ⟨ret_bool (by symm; rw [decide_eq_false_iff_not]; intro h; exact hxy (by rw [h])), World.grownBy.refl _ _⟩
theorem eq_same (w : World) (u v : Value) (X : List Bool) (hu : SeesG encB w u X) (hv : SeesG encB w v X) :
    Calls Tryz.prog 39 #[u, v] w fun e w' => e = .returned (.bool true) ∧ w.grownBy w' none := by
  have := eq_any w u v X X hu hv
  simpa using this

set_option maxHeartbeats 400000 in
theorem mark_any (w : World) (base : Nat) (v : Value) (X : List Bool) (m : Nat) (hv : OwnG encB 4 w base v X) (hm : m + X.length ≤ 4000000000000000000) :
    Calls Tryz.prog 40 #[v, .int .i64 m] w fun e w' => e = .returned (.int .i64 ((m + X.length : Nat) : Int)) ∧ OwnG encB 4 w' base v (marksB m X.length) ∧ w.grownBy w' v.ownBlock := by
  have HL := Lib.hid (marksB_len m X.length)
  rcases hv.1.2 with ⟨rfl, hn⟩ | ⟨g, cap, cur, rfl, hb, hg, hnc, hcm, hcs, ht⟩
  · have hX : X = [] := List.eq_nil_of_length_eq_zero hn
    subst hX
    have HV := Lib.hid hv
    clear hv
    go_enter Tryz.func40, Tryz.ntmps40
    go_wp2
    refine wp_loop_rounds 1 ?_
    rw [rounds_succ]
    go_wp2
    go_ret
    exact ⟨rfl, HV.out, World.grownBy.refl _ _⟩
  · have hown : OwnG encB 4 w base (.slice (some ⟨g, 0, none⟩) X.length cap) ((marksB m X.length).take 0 ++ X.drop 0) := by simpa using hv
    have HO := Lib.hid hown
    clear hv hown hg hcm hcs ht hb hnc
    go_enter Tryz.func40, Tryz.ntmps40
    go_wp2
    go_loopw [1, 5] (fun q i wr => ∃ j : Nat, j ≤ X.length ∧ i = .int .i64 j ∧ q = .int .i64 ((m : Int) + j) ∧ Hid (OwnG encB 4 wr base (.slice (some ⟨g, 0, none⟩) X.length cap) ((marksB m X.length).take j ++ X.drop j)) ∧ Hid (w.grownBy wr (some g)))
      (fun _ i _ => X.length - (intOf i).toNat)
    case atStart => exact ⟨0, Nat.zero_le _, rfl, by simp, HO, World.grownBy.refl _ _⟩
    case round =>
      obtain ⟨j, hj, rfl, rfl, HO1, HG1⟩ := hrel
      by_cases hlt : j < X.length
      · have hf := HO1.out.free j
        have hd : wr.cell? ⟨g, j, none⟩ = some (.bool (X.getD j false)) := by
          have := HO1.out.cellAt (j := j) (by rw [spliceG_len HL.out (by rw [HL.out]; omega), HL.out]; exact hlt) (i := 0) (by decide)
          rw [spliceG_get HL.out (by rw [HL.out]; exact hlt)] at this
          simpa [encB] using this
        obtain ⟨z, hz⟩ : ∃ z, z = X.getD j false := ⟨_, rfl⟩
        rw [← hz] at hd
        clear hz
        have hp := HO1.out.put (spliceG_len HL.out (by rw [HL.out]; omega) |>.trans HL.out) (j := j) (i := 0) (u := .bool (mk3 (m + j))) (x := mk3 (m + j)) (by rw [spliceG_len HL.out (by rw [HL.out]; omega), HL.out]; exact hlt) (by decide) rfl trivial
        rw [show OwnG encB 4 (wr.setCell ⟨g, j * encB.size + 0, none⟩ (.bool (mk3 (m + j)))) base (.slice (some ⟨g, 0, none⟩) X.length cap) (((marksB m X.length).take j ++ X.drop j).set j (mk3 (m + j))) = OwnG encB 4 (wr.setCell ⟨g, j * encB.size + 0, none⟩ (.bool (mk3 (m + j)))) base (.slice (some ⟨g, 0, none⟩) X.length cap) ((marksB m X.length).take (j + 1) ++ X.drop (j + 1)) by
          rw [← spliceG_set (d := false) HL.out (by rw [HL.out]; exact hlt), marksB_get hlt], show j * encB.size + 0 = j by simp [encB], mk3_add] at hp
        have HP := Lib.hid hp
        clear hp
        go_wp2
        go_roundw
        case rel => exact ⟨j + 1, by omega, by go_num, by go_num, HP.out.1, grownN_trans HG1.out HP.out.2⟩
        case measure => simp [intOf]; omega
      · have : j = X.length := by omega
        subst this
        go_wp2
        go_ret
        have ho := HO1.out
        rw [List.drop_length, List.append_nil, List.take_of_length_le (by rw [HL.out]; exact Nat.le_refl _)] at ho
        exact ⟨by go_num, ho, HG1.out⟩

set_option maxHeartbeats 400000 in
theorem held_any (w : World) (v : Value) (m n : Nat) (hv : SeesG encB w v (marksB m n)) (hm : m + n ≤ 4000000000000000000) :
    Calls Tryz.prog 92 #[v, .int .i64 m] w fun e w' => e = .returned (.int .i64 ((m + n : Nat) : Int)) ∧ w.grownBy w' none := by
  have HV := Lib.hid hv
  obtain ⟨a, cap, rfl, _⟩ := hv
  rw [marksB_len] at HV
  rw [marksB_len]
  go_enter Tryz.func92, Tryz.ntmps92
  go_wp2
  go_loopw [1, 5] (fun q i wr => ∃ j : Nat, j ≤ n ∧ i = .int .i64 j ∧ q = .int .i64 ((m : Int) + j) ∧ Hid (w.grownBy wr none))
    (fun _ i _ => n - (intOf i).toNat)
  case atStart => exact ⟨0, Nat.zero_le _, rfl, by simp, World.grownBy.refl _ _⟩
  case round =>
    obtain ⟨j, hj, rfl, rfl, HG1⟩ := hrel
    by_cases hlt : j < n
    · obtain ⟨b, o, rfl, _, hc⟩ := HV.out.at_rowB (j := j) (by rw [marksB_len]; exact hlt)
      have hcj : wr.cell? ⟨b, o + j, none⟩ = some (.bool ((marksB m n).getD j false)) := HG1.out.cell hc (by simp)
      clear hc
      rw [marksB_get hlt] at hcj
      rw [mk3_add] at hcj
      go_wp2
      go_roundw
      case rel => exact ⟨j + 1, by omega, by go_num, by go_num, HG1⟩
      case measure => simp [intOf]; omega
    · have : j = n := by omega
      subst this
      go_wp2
      go_ret
      exact ⟨by go_num, HG1.out⟩
end Go.Proofs.YtbjnbaddbanhbaaGreat.LawsBo

namespace Go.Proofs.YtbjnbaddbanhbaaGreat.LawsBo
open Go.RowKit Kit Rw Rg
theorem szB_any (w : World) (v : Value) (X : List Bool) (left : Int) (hv : SeesG encB w v X) (hl : 0 ≤ left) (hl' : left ≤ 1048576) :
    Calls Tryz.prog 62 #[v, .int .i64 left] w fun e w' => e = .returned (.int .i64 (if (X.length : Int) ≤ left then left - X.length else -1)) ∧ w = w' := by
  have hlen := hv.len
  obtain ⟨a, cap, rfl, _⟩ := hv
  by_cases h : (X.length : Int) ≤ left
  · rw [if_pos h]
    go_enter Tryz.func62, Tryz.ntmps62
    go_wp2
    go_ret
    exact ⟨rfl, rfl⟩
  · rw [if_neg h]
    have h2 : left - (X.length : Int) < 0 := by omega
    go_enter Tryz.func62, Tryz.ntmps62
    go_wp2
    go_ret
    exact ⟨rfl, rfl⟩

theorem szB_yes (w : World) (v : Value) (X : List Bool) (left : Int) (hv : SeesG encB w v X) (h : (X.length : Int) ≤ left) (hl : 0 ≤ left) (hl' : left ≤ 1048576) :
    Calls Tryz.prog 62 #[v, .int .i64 left] w fun e w' => e = .returned (.int .i64 (left - (X.length : Int))) ∧ w.grownBy w' none := by
  have := szB_any w v X left hv hl hl'
  rw [if_pos h] at this
  exact this.mono fun e w' h => ⟨h.1, by rw [← h.2]; exact World.grownBy.refl _ _⟩
theorem szB_no (w : World) (v : Value) (X : List Bool) (left : Int) (hv : SeesG encB w v X) (h : ¬ (X.length : Int) ≤ left) (hl : 0 ≤ left) (hl' : left ≤ 1048576) :
    Calls Tryz.prog 62 #[v, .int .i64 left] w fun e w' => e = .returned (.int .i64 (-1)) ∧ w.grownBy w' none := by
  have := szB_any w v X left hv hl hl'
  rw [if_neg h] at this
  exact this.mono fun e w' h => ⟨h.1, by rw [← h.2]; exact World.grownBy.refl _ _⟩
end Go.Proofs.YtbjnbaddbanhbaaGreat.LawsBo

namespace Go.Proofs.YtbjnbaddbanhbaaGreat.Stm

def storms (L : List Bool) : Nat := L.countP id
def calm (L : List Bool) : Nat := (L.reverse.takeWhile (fun b => !b)).length
def isRule (m w : Int) : Bool := decide (1 ≤ w ∧ w ≤ 10) && decide (0 ≤ m ∧ m ≤ w - 1)
/-- The storms among the last w of L. -/
def late (w : Int) (L : List Bool) : Nat := storms (L.drop (L.length - w.toNat))
def keeps (m w : Int) (L : List Bool) : Bool := isRule m w && (List.range L.length).all fun i => decide ((late w (L.take (i + 1)) : Int) ≤ m)
def mayStorm (m w : Int) (L : List Bool) : Bool := isRule m w && decide ((late (w - 1) L : Int) < m)
def addDay (L : List Bool) (b : Bool) : List Bool := (L ++ [b]).drop (L.length + 1 - 10)
theorem storms_nil : storms [] = 0 := rfl
theorem storms_app (L M : List Bool) : storms (L ++ M) = storms L + storms M := by simp [storms]
theorem storms_le (L : List Bool) : storms L ≤ L.length := List.countP_le_length
theorem storms_next {L : List Bool} {j : Nat} (hj : j < L.length) : storms (L.take (j + 1)) = storms (L.take j) + (if L.getD j false = true then 1 else 0) := by
  rw [List.take_add_one, storms_app]
  congr 1
  cases h : L[j] <;> simp [hj, h, storms]
theorem calm_step {L : List Bool} {n : Nat} (h : ∀ m, m < n → L.getD (L.length - 1 - m) false = false) (hn : n ≤ L.length) : n ≤ calm L := by
  have : ∀ (n : Nat) (R : List Bool), n ≤ R.length → (∀ m, m < n → R.getD m false = false) → n ≤ (R.takeWhile (fun b => !b)).length := by
    intro n
    induction n with
    | zero => intro R _ _; omega
    | succ n ih =>
      intro R hl hm
      match R, hl with
      | x :: R, hl =>
        have hx : x = false := by simpa using hm 0 (by omega)
        subst hx
        have := ih R (by simpa using hl) (fun m h => by simpa using hm (m + 1) (by omega))
        simpa using this
  refine this n L.reverse (by simpa using hn) (fun m hm => ?_)
  have := h m hm
  rw [List.getD_eq_getElem?_getD] at this ⊢
  rw [List.getElem?_reverse (by omega)]
  exact this
theorem calm_stop {L : List Bool} {n : Nat} (h : n < L.length) (hs : L.getD (L.length - 1 - n) false = true) : calm L ≤ n := by
  have : ∀ (n : Nat) (R : List Bool), R.getD n false = true → (R.takeWhile (fun b => !b)).length ≤ n := by
    intro n
    induction n with
    | zero => intro R hm; match R with | [] => simp | x :: R => simp at hm; subst hm; simp
    | succ n ih =>
      intro R hm
      match R with
      | [] => simp
      | x :: R =>
        have := ih R (by simpa using hm)
        cases x <;> simp <;> omega
  refine this n L.reverse ?_
  rw [List.getD_eq_getElem?_getD] at hs ⊢
  rw [List.getElem?_reverse h]
  exact hs
theorem calm_le (L : List Bool) : calm L ≤ L.length := by
  have := (List.takeWhile_sublist (fun b => !b) (l := L.reverse)).length_le
  simpa [calm] using this
end Go.Proofs.YtbjnbaddbanhbaaGreat.Stm

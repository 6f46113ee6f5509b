/- Contracts of the laws' helpers on these and rows of these: copies, comparisons, marks, sizes. Contracts of the laws' helper on the size of a row of depots: enough, or too much. How the laws mark a bool. -/
import Derived.Test.YtbpiojnehomljaaRowM
import Derived.Deep.RegionHeld3
import Derived.Test.YtbpiojnehomljaaG2
namespace Go.Proofs.Ytbpiojnehomljaa.LawsG
open Go.RowKit Kit Rw Rg

theorem info_mem : (Try.prog.info? 72).map (fun i => (i.zero, i.size, i.bytes)) = some (some (.agg #[.int .i64 0, .int .i64 0]), 2, 16) := by kernel_rfl
theorem twoP {w : World} {b : Nat} {x y : Value} {T : TypeId} (h : Box w b #[x, y] T) : w.cell? ⟨b, 0, none⟩ = some x ∧ w.cell? ⟨b, 1, none⟩ = some y := ⟨h.cell 0, h.cell 1⟩

theorem szG_any (w : World) (v : Value) (X : List (Int × Int)) (left : Int) (hv : SeesG encP w v X) (hl : 0 ≤ left) (hl' : left ≤ 1048576) :
    Calls Try.prog 11 #[v, .int .i64 left] w fun e w' => e = .returned (.int .i64 (if (X.length : Int) ≤ left then left - X.length else -1)) ∧ w = w' := by
  have hlen := hv.len
  obtain ⟨a, cap, rfl, _⟩ := hv
  by_cases h : (X.length : Int) ≤ left
  · rw [if_pos h]
    go_enter Try.func11, Try.ntmps11
    go_wp2
    go_ret
    exact ⟨rfl, rfl⟩
  · rw [if_neg h]
    have h2 : left - (X.length : Int) < 0 := by omega
    go_enter Try.func11, Try.ntmps11
    go_wp2
    go_ret
    exact ⟨rfl, rfl⟩

set_option maxHeartbeats 400000 in
theorem toLeg_any (w : World) (i s : Int) :
    Calls Try.prog 49 #[.agg #[.int .i64 i, .int .i64 s]] w fun e w' => e = .returned (.agg #[.int .i64 i, .int .i64 s]) ∧ w.grownBy w' none := by
  have b1 := (box_new (w.alloc (.cells #[.int .i64 i, .int .i64 s] 75 (0, 0))) #[.int .i64 i, .int .i64 s] 72).grown (World.grownBy_alloc _ (.cells #[.int .i64 i, .int .i64 s] 72 (0, 0)) none)
  simp only [World.size_alloc] at b1
  have HG := Lib.hid (grownN_trans (grownN_trans (World.grownBy_alloc w (.cells #[.int .i64 i, .int .i64 s] 75 (0, 0)) none) (World.grownBy_alloc _ (.cells #[.int .i64 i, .int .i64 s] 72 (0, 0)) none)) (World.grownBy_alloc _ (.cells #[.int .i64 i, .int .i64 s] 72 (0, 0)) none))
  obtain ⟨c0, c1⟩ := twoP b1
  clear b1
  go_enter Try.func49, Try.ntmps49
  go_wp2
  refine bodyPost_ret (v := .agg #[.int .i64 i, .int .i64 s]) ?_ rfl ⟨rfl, HG.out⟩
  simp [results, Try.results49, go_sem, c0, c1]

set_option maxRecDepth 20000 in
set_option maxHeartbeats 1000000 in
theorem to_any (w : World) (v : Value) (X : List (Int × Int)) (hv : SeesG encP w v X) (hn : X.length ≤ 100000000000) :
    Calls Try.prog 14 #[v] w fun e w' => ∃ u, e = .returned u ∧ OwnG encP 72 w' w.heap.size u X ∧ w.grownBy w' none := by
  have HV := Lib.hid hv
  have HOK := Lib.hid hv.ok
  obtain ⟨a, cap, rfl, hlc, hcm, hnil, hwf, hcell⟩ := hv
  have hn1 : X.length ≤ maxLen := by unfold maxLen; omega
  clear hwf hcm hnil hcell
  obtain ⟨i0, hi, hz0, hz1, hz2⟩ := info_parts info_mem
  go_enter Try.func14, Try.ntmps14
  go_wp2_with (at_make; refine wpListG_make (e := encP) _ rfl _ _ 31 rfl w.heap.size 72 i0 (.agg #[.int .i64 0, .int .i64 0]) 16 Try.underlying31 hi hz0 hz1 hz2 rfl ⟨rfl, rfl⟩ .i64 .i64 _ _ X.length rfl rfl rfl rfl (by omega) hn1 (Nat.le_refl _) ?_; intro w1 hown hgrow)
  obtain ⟨Z, hZ⟩ : ∃ Z : List (Int × Int), Z = List.replicate X.length encP.dflt := ⟨_, rfl⟩
  have hown : OwnG encP 72 w1 w.heap.size (.slice (some ⟨w.heap.size, 0, none⟩) X.length X.length) (X.take 0 ++ Z.drop 0) := by
    rw [hZ]; simpa using hown
  have hZl : Hid (X.length = Z.length) := by show _ = _; rw [hZ]; simp
  have HO := Lib.hid hown
  have HG := Lib.hid hgrow
  have HS := Lib.hid hgrow.size
  clear hown hgrow hZ
  go_loopw [4] (fun i wr => ∃ j : Nat, j ≤ X.length ∧ i = .int .i64 j ∧ Hid (OwnG encP 72 wr w.heap.size (.slice (some ⟨w.heap.size, 0, none⟩) X.length X.length) (X.take j ++ Z.drop j)) ∧ Hid (w.grownBy wr none))
    (fun i _ => X.length - (intOf i).toNat)
  case atStart => exact ⟨0, Nat.zero_le _, rfl, HO, HG⟩
  case round =>
    obtain ⟨j, hj, rfl, HO1, HG1⟩ := hrel
    by_cases hlt : j < X.length
    · obtain ⟨b, o, rfl, hb, _⟩ := HV.out.at_row hlt
      obtain ⟨e0, e1⟩ := HV.out.atP hlt
      rw [← Nat.add_assoc] at e1
      obtain ⟨x, hx⟩ : ∃ x, x = X.getD j (0, 0) := ⟨_, rfl⟩
      rw [← hx] at e0 e1
      have d0 := HG1.out.cell e0 (by simp)
      have d1 := HG1.out.cell e1 (by simp)
      have HX := Lib.hid hx
      have HXO : Hid (encP.ok x) := by show encP.ok x; rw [hx]; exact HOK.out _ (memG hlt)
      clear hx e0 e1 hb
      obtain ⟨xi, xs⟩ := x
      go_wp2_with fail
      refine (toLeg_any _ xi xs).mono ?_
      rintro e w3 ⟨rfl, hg⟩
      have HG3 := Lib.hid (grownN_trans HG1.out hg)
      have HO3 := Lib.hid (HO1.out.grown hg)
      clear hg d0 d1
      have hlj : j < (X.take j ++ Z.drop j).length := by rw [spliceG_len hZl.out hj]; exact hlt
      obtain ⟨z0, z1⟩ := HO3.out.cellP hlj
      obtain ⟨z, hz⟩ : ∃ z, z = (X.take j ++ Z.drop j).getD j (0, 0) := ⟨_, rfl⟩
      rw [← hz] at z0 z1
      have f0 := HO3.out.free (j * 2)
      have f1 := HO3.out.free (j * 2 + 1)
      have hp := HO3.out.putP (spliceG_len hZl.out hj) hlj (xi, xs) HXO.out
      rw [HX.out, spliceG_set hZl.out hlt] at hp
      have HP := Lib.hid hp
      have HXE : Hid (((xi, xs) : Int × Int) = X.getD j (0, 0)) := HX.out
      clear hz hp hlj
      go_wp2
      go_roundw
      case rel =>
        have hp := HP.out
        rw [← HXE.out] at hp
        exact ⟨j + 1, by omega, by go_num, hp.1, grown_new HG3.out hp.2 (fun c h => by injection h with h; omega)⟩
      case measure => simp [intOf]; omega
    · have : j = X.length := by omega
      subst this
      go_wp2
      go_ret
      exact ⟨_, rfl, by have h := HO1.out; rw [List.take_length, hZl.out, List.drop_length, List.append_nil] at h; rw [hZl.out]; exact h, HG1.out⟩

set_option maxRecDepth 20000 in
set_option maxHeartbeats 400000 in
theorem eqLeg_same (w : World) (i s : Int) :
    Calls Try.prog 54 #[.agg #[.int .i64 i, .int .i64 s], .agg #[.int .i64 i, .int .i64 s]] w fun e w' => e = .returned (.bool true) ∧ w.grownBy w' none := by
  have HG := Lib.hid (grownN_trans (World.grownBy_alloc w (.cells #[.int .i64 i, .int .i64 s] 72 (0, 0)) none) (World.grownBy_alloc _ (.cells #[.int .i64 i, .int .i64 s] 72 (0, 0)) none))
  · go_enter Try.func54, Try.ntmps54
    go_wp2
    go_ret
    exact ⟨rfl, HG.out⟩

set_option maxRecDepth 20000 in
set_option maxHeartbeats 1000000 in
theorem eq_same (w : World) (u v : Value) (X : List (Int × Int)) (hu : SeesG encP w u X) (hv : SeesG encP w v X) :
    Calls Try.prog 18 #[u, v] w fun e w' => e = .returned (.bool true) ∧ w.grownBy w' none := by
  have hl := hu.len
  have HU := Lib.hid hu
  have HV := Lib.hid hv
  obtain ⟨a, cap, rfl, _⟩ := hu
  obtain ⟨a2, cap2, rfl, _⟩ := hv
  go_enter Try.func18, Try.ntmps18
  go_wp2
  go_loopw [5] (fun i wr => ∃ j : Nat, j ≤ X.length ∧ i = .int .i64 j ∧ Hid (w.grownBy wr none)) (fun i _ => X.length - (intOf i).toNat)
  case atStart => exact ⟨0, Nat.zero_le _, rfl, World.grownBy.refl _ _⟩
  case round =>
    obtain ⟨j, hj, rfl, HG1⟩ := hrel
    by_cases hlt : j < X.length
    · obtain ⟨b, o, rfl, _, _⟩ := HU.out.at_row hlt
      obtain ⟨b2, o2, rfl, _, _⟩ := HV.out.at_row hlt
      obtain ⟨x, hx⟩ : ∃ x, X.getD j (0, 0) = x := ⟨_, rfl⟩
      have hS := fun w' (hg : w.grownBy w' none) => And.intro (atP_in HU.out hg hlt hx) (atP_in HV.out hg hlt hx)
      have HS := Lib.hid hS
      clear hS hx
      obtain ⟨xi, xs⟩ := x
      go_wp2_with fail
      refine wp_region_held_drew (S := fun w' => (w'.cell? ⟨b, o + j * 2, none⟩ = some (.int .i64 xi) ∧ w'.cell? ⟨b, o + j * 2 + 1, none⟩ = some (.int .i64 xs)) ∧
        (w'.cell? ⟨b2, o2 + j * 2, none⟩ = some (.int .i64 xi) ∧ w'.cell? ⟨b2, o2 + j * 2 + 1, none⟩ = some (.int .i64 xs))) (by kernel_rfl) (HS.out _ (grown_drew HG1.out)) (fun hHeld => ?_)
      refine wpAnyH_take (i := 0) (v := ?_) rfl (by kernel_rfl) (by kernel_rfl) (by kernel_rfl) (fun _ _ _ h => h) (Or.inl ⟨by rfl, ?_⟩) (by assumption) ?_; rotate_left; (focus (intro wS hSw; (try dsimp only at hSw); go_simp <;> with_reducible rfl)); (try simp only [Act.put, List.getElem_toArray, List.getElem_cons_succ, List.getElem_cons_zero, List.setIfInBounds_toArray, List.set_cons_zero, List.set_cons_succ])
      refine wpAnyH_take (i := 1) (v := ?_) rfl (by kernel_rfl) (by kernel_rfl) (by kernel_rfl) (fun _ _ _ h => h) (Or.inl ⟨by rfl, ?_⟩) (by assumption) ?_; rotate_left; (focus (intro wS hSw; (try dsimp only at hSw); go_simp <;> with_reducible rfl)); (try simp only [Act.put, List.getElem_toArray, List.getElem_cons_succ, List.getElem_cons_zero, List.setIfInBounds_toArray, List.set_cons_zero, List.set_cons_succ])
      refine wpAnyH_take (i := 2) (v := ?_) rfl (by kernel_rfl) (by kernel_rfl) (by kernel_rfl) (fun _ _ _ h => h) (Or.inl ⟨by rfl, ?_⟩) (by assumption) ?_; rotate_left; (focus (intro wS hSw; (try dsimp only at hSw); go_simp <;> with_reducible rfl)); (try simp only [Act.put, List.getElem_toArray, List.getElem_cons_succ, List.getElem_cons_zero, List.setIfInBounds_toArray, List.set_cons_zero, List.set_cons_succ])
      refine wpAnyH_take (i := 3) (v := ?_) rfl (by kernel_rfl) (by kernel_rfl) (by kernel_rfl) (fun _ _ _ h => h) (Or.inl ⟨by rfl, ?_⟩) (by assumption) ?_; rotate_left; (focus (intro wS hSw; (try dsimp only at hSw); go_simp <;> with_reducible rfl)); (try simp only [Act.put, List.getElem_toArray, List.getElem_cons_succ, List.getElem_cons_zero, List.setIfInBounds_toArray, List.set_cons_zero, List.set_cons_succ])
      refine wpAnyH_take (i := 4) (v := ?_) rfl (by kernel_rfl) (by kernel_rfl) (by kernel_rfl) (fun _ _ _ h => h) (Or.inl ⟨by rfl, ?_⟩) (by assumption) ?_; rotate_left; (focus (intro wS hSw; (try dsimp only at hSw); go_simp <;> with_reducible rfl)); (try simp only [Act.put, List.getElem_toArray, List.getElem_cons_succ, List.getElem_cons_zero, List.setIfInBounds_toArray, List.set_cons_zero, List.set_cons_succ])
      refine wpAnyH_take (i := 5) (v := ?_) rfl (by kernel_rfl) (by kernel_rfl) (by kernel_rfl) (fun _ _ _ h => h) (Or.inl ⟨by rfl, ?_⟩) (by assumption) ?_; rotate_left; (focus (intro wS hSw; (try dsimp only at hSw); go_simp <;> with_reducible rfl)); (try simp only [Act.put, List.getElem_toArray, List.getElem_cons_succ, List.getElem_cons_zero, List.setIfInBounds_toArray, List.set_cons_zero, List.set_cons_succ])
      refine wpAnyH_take (i := 6) (v := ?_) rfl (by kernel_rfl) (by kernel_rfl) (by kernel_rfl) (fun _ _ _ h => h) (Or.inl ⟨by rfl, ?_⟩) (by assumption) ?_; rotate_left; (focus (intro wS hSw; (try dsimp only at hSw); go_simp <;> with_reducible rfl)); (try simp only [Act.put, List.getElem_toArray, List.getElem_cons_succ, List.getElem_cons_zero, List.setIfInBounds_toArray, List.set_cons_zero, List.set_cons_succ])
      refine wpAnyH_take (i := 7) (v := ?_) rfl (by kernel_rfl) (by kernel_rfl) (by kernel_rfl) (fun _ _ _ h => h) (Or.inl ⟨by rfl, ?_⟩) (by assumption) ?_; rotate_left; (focus (intro wS hSw; (try dsimp only at hSw); go_simp <;> with_reducible rfl)); (try simp only [Act.put, List.getElem_toArray, List.getElem_cons_succ, List.getElem_cons_zero, List.setIfInBounds_toArray, List.set_cons_zero, List.set_cons_succ])
      refine wpAnyH_ready (rs := [8]) (by kernel_rfl) (by simp) ?_; refine AllReadyH.cons rfl (fun K hK => ?_) AllReadyH.nil; go_simp; (go_at_call 54; refine (eqLeg_same _ xi xs).mono ?_; rintro e w5 ⟨rfl, hg5⟩; have HG5 := Lib.hid (grownN_trans (grown_drew HG1.out) hg5); clear hg5)
      refine hK.out _ _ ?_ (fun hHeld => ?_)
      · exact HS.out _ HG5.out
      clear hK K
      (try simp only [Act.put, List.getElem_toArray, List.getElem_cons_succ, List.getElem_cons_zero, List.setIfInBounds_toArray, List.set_cons_zero, List.set_cons_succ])
      refine wpAnyH_take (i := 9) (v := ?_) rfl (by kernel_rfl) (by kernel_rfl) (by kernel_rfl) (fun _ _ _ h => h) (Or.inl ⟨by rfl, ?_⟩) (by assumption) ?_; rotate_left; (focus (intro wS hSw; (try dsimp only at hSw); go_simp <;> with_reducible rfl)); (try simp only [Act.put, List.getElem_toArray, List.getElem_cons_succ, List.getElem_cons_zero, List.setIfInBounds_toArray, List.set_cons_zero, List.set_cons_succ])
      refine wpAnyH_done (by kernel_rfl) ?_ _
      (try simp only [Act.put, List.getElem_toArray, List.getElem_cons_succ, List.getElem_cons_zero, List.setIfInBounds_toArray, List.set_cons_zero, List.set_cons_succ])
      go_wp2
      go_roundw
      case rel => exact ⟨j + 1, by omega, by go_num, HG5⟩
      case measure => simp [intOf]; omega
    · have : j = X.length := by omega
      subst this
      go_wp2
      go_ret
      exact ⟨rfl, HG1.out⟩

def mkG (k : Nat) : Int × Int := ((k : Int), (k : Int) + 1)
/-- The marks from 'm' on. -/
def marksG (m n : Nat) : List (Int × Int) := (List.range n).map (fun j => mkG (m + 2 * j))
theorem marksG_len (m n : Nat) : (marksG m n).length = n := by simp [marksG]
theorem marksG_get {m n j : Nat} (hj : j < n) : (marksG m n).getD j (0, 0) = mkG (m + 2 * j) := by simp [marksG, hj]

set_option maxRecDepth 20000 in
set_option maxHeartbeats 1000000 in
theorem mark_any (w : World) (base : Nat) (v : Value) (X : List (Int × Int)) (m : Nat) (hv : OwnG encP 72 w base v X) (hm : m + 2 * X.length ≤ 4000000000000000000) :
    Calls Try.prog 20 #[v, .int .i64 m] w fun e w' => e = .returned (.int .i64 ((m + 2 * X.length : Nat) : Int)) ∧ OwnG encP 72 w' base v (marksG m X.length) ∧ w.grownBy w' v.ownBlock := by
  have HL := Lib.hid (marksG_len m X.length)
  rcases hv.1.2 with ⟨rfl, hn⟩ | ⟨g, cap, cur, rfl, hb, hg, hnc, hcm, hcs, ht⟩
  · have hX : X = [] := List.eq_nil_of_length_eq_zero hn
    subst hX
    have HV := Lib.hid hv
    clear hv
    go_enter Try.func20, Try.ntmps20
    go_wp2
    refine wp_loop_rounds 1 ?_
    rw [rounds_succ]
    go_wp2
    go_ret
    exact ⟨rfl, HV.out, World.grownBy.refl _ _⟩
  · have hown : OwnG encP 72 w base (.slice (some ⟨g, 0, none⟩) X.length cap) ((marksG m X.length).take 0 ++ X.drop 0) := by simpa using hv
    have HO := Lib.hid hown
    clear hv hown hg hcm hcs ht hb hnc
    go_enter Try.func20, Try.ntmps20
    go_wp2
    go_loopw [1, 5] (fun q i wr => ∃ j : Nat, j ≤ X.length ∧ i = .int .i64 j ∧ q = .int .i64 ((m : Int) + 2 * j) ∧ Hid (OwnG encP 72 wr base (.slice (some ⟨g, 0, none⟩) X.length cap) ((marksG m X.length).take j ++ X.drop j)) ∧ Hid (w.grownBy wr (some g)))
      (fun _ i _ => X.length - (intOf i).toNat)
    case atStart => exact ⟨0, Nat.zero_le _, rfl, by simp, HO, World.grownBy.refl _ _⟩
    case round =>
      obtain ⟨j, hj, rfl, rfl, HO1, HG1⟩ := hrel
      by_cases hlt : j < X.length
      · have hlj : j < ((marksG m X.length).take j ++ X.drop j).length := by rw [spliceG_len HL.out (by rw [HL.out]; omega), HL.out]; exact hlt
        obtain ⟨z0, z1⟩ := HO1.out.cellP hlj
        obtain ⟨z, hz⟩ : ∃ z, z = ((marksG m X.length).take j ++ X.drop j).getD j (0, 0) := ⟨_, rfl⟩
        rw [← hz] at z0 z1
        have f0 := HO1.out.free (j * 2)
        have f1 := HO1.out.free (j * 2 + 1)
        have hp := HO1.out.putP ((spliceG_len HL.out (by rw [HL.out]; omega)).trans HL.out) hlj (mkG (m + 2 * j)) ⟨i64_mk (by simp only [mkG]; omega), i64_mk (by simp only [mkG]; omega)⟩
        have hse := spliceG_set (d := (0, 0)) HL.out (show j < (marksG m X.length).length by rw [HL.out]; exact hlt)
        rw [marksG_get hlt] at hse
        rw [hse] at hp
        simp only [mkG, Int.natCast_add, Int.natCast_mul] at hp
        have HP := Lib.hid hp
        clear hp hse hz hlj
        go_wp2
        go_roundw
        case rel => exact ⟨j + 1, by omega, by go_num, by go_num, HP.out.1, grownN_trans HG1.out HP.out.2⟩
        case measure => simp [intOf]; omega
      · have : j = X.length := by omega
        subst this
        go_wp2
        go_ret
        have ho := HO1.out
        rw [List.drop_length, List.append_nil, List.take_of_length_le (by rw [HL.out]; exact Nat.le_refl _)] at ho
        exact ⟨by go_num, ho, HG1.out⟩

end Go.Proofs.Ytbpiojnehomljaa.LawsG

namespace Go.Proofs.Ytbpiojnehomljaa.LawsG
open Go.RowKit Kit Rw Rg
theorem szG_yes (w : World) (v : Value) (X : List (Int × Int)) (left : Int) (hv : SeesG encP w v X) (h : (X.length : Int) ≤ left) (hl : 0 ≤ left) (hl' : left ≤ 1048576) :
    Calls Try.prog 11 #[v, .int .i64 left] w fun e w' => e = .returned (.int .i64 (left - (X.length : Int))) ∧ w.grownBy w' none := by
  have := szG_any w v X left hv hl hl'
  rw [if_pos h] at this
  exact this.mono fun e w' h => ⟨h.1, by rw [← h.2]; exact World.grownBy.refl _ _⟩
theorem szG_no (w : World) (v : Value) (X : List (Int × Int)) (left : Int) (hv : SeesG encP w v X) (h : ¬ (X.length : Int) ≤ left) (hl : 0 ≤ left) (hl' : left ≤ 1048576) :
    Calls Try.prog 11 #[v, .int .i64 left] w fun e w' => e = .returned (.int .i64 (-1)) ∧ w.grownBy w' none := by
  have := szG_any w v X left hv hl hl'
  rw [if_neg h] at this
  exact this.mono fun e w' h => ⟨h.1, by rw [← h.2]; exact World.grownBy.refl _ _⟩
end Go.Proofs.Ytbpiojnehomljaa.LawsG

namespace Go.Proofs.Ytbpiojnehomljaa.LawsBo
def mk3 (m : Nat) : Bool := (m : Int) % 3 == 0
theorem mk3_add (m j : Nat) : mk3 (m + j) = (((m : Int) + (j : Int)) % 3 == 0) := by unfold mk3; rw [Int.natCast_add]
end Go.Proofs.Ytbpiojnehomljaa.LawsBo

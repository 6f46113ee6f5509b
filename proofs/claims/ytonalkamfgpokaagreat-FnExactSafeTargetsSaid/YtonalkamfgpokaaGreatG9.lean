/- Contract of the program's AddDay. Contracts of the laws' helper on rules, and of the counts, as frames. Contracts of the laws' helpers on depots and rows of depots: copies, comparisons, marks, sizes. Contracts of the laws' helper on the size of a row of depots: enough, or too much. -/
import Derived.Test.YtonalkamfgpokaaGreatG8
import Derived.Test.YtonalkamfgpokaaGreatRowM
import Derived.Deep.RegionHeld3
namespace Go.Proofs.YtonalkamfgpokaaGreat.StI
open Go.RowKit Kit Rw Rg Stm Md StormS Mn

set_option maxHeartbeats 1000000 in
theorem iAddDay_any (w : World) (v : Value) (L : List Bool) (b : Bool) (hv : SeesG encB w v L) (hL : L.length ≤ 100000000) :
    Calls Tryz.prog 198 #[v, .bool b] w fun e w' => ∃ u, e = .returned u ∧ OwnG encB 4 w' w.heap.size u (addDay L b) ∧ w.grownBy w' none := by
  have HV := Lib.hid hv
  obtain ⟨a, cap, rfl, hlc, hcm, _⟩ := hv
  obtain ⟨i0, hi, hz0, hz1, hz2⟩ := info_parts StI.info_bool
  obtain ⟨i, hii⟩ : ∃ i, i = L.length + 1 - 10 := ⟨_, rfl⟩
  have hmx : most 0 ((L.length : Int) + 1 - 10) = i := by unfold most; split <;> omega
  have hM := fun w => max_any 0 ((L.length : Int) + 1 - 10) w
  rw [hmx] at hM
  have HM := Lib.hid hM
  have hil : i ≤ L.length := by omega
  have hS := seesG_from HV.out hil (k := i) (by simp [encB])
  have HS : Hid (SeesG encB w (.slice (if cap = i then a else a.map (fun x => x.add i)) (L.length - i) (cap - i)) (L.drop i)) := hS
  have HD : Hid (addDay L b = L.drop i ++ [b]) := by
    show _ = _
    unfold addDay
    rw [List.drop_append_of_le_length (by omega), hii]
  have HLD : Hid ((L.drop i).length ≤ 1000000000) := by show _ ≤ _; simp; omega
  have HLE : Hid (((L.drop i).length : Int) + 1 ≤ 1000000000000) := by show _ ≤ _; simp; omega
  clear hM hmx hii hS
  by_cases hci : cap = i
  · subst hci
    have HS1 : Hid (SeesG encB w (.slice a 0 0) (L.drop cap)) := by
      have := HS.out
      rw [if_pos rfl, show L.length - cap = 0 by omega, Nat.sub_self] at this
      exact this
    go_enter Tryz.func198, Tryz.ntmps198
    go_wp2_with fail
    refine (HM.out _).mono ?_
    rintro e w2 ⟨rfl, hg⟩
    have HG2 := Lib.hid hg
    clear hg
    go_wp2_with fail
    refine (copyB_any _ _ (L.drop cap) 1 (HS1.out.grown HG2.out) (by omega) HLE.out).mono ?_
    rintro e w3 ⟨u, rfl, ho, hg⟩
    have HO3 := Lib.hid ho
    have HG3 := Lib.hid hg
    have HZ := Lib.hid HG2.out.size
    have HB3 := Lib.hid (grownN_trans HG2.out hg)
    clear ho hg
    go_wp2_with (at_builtin; go_loud (refine wpListG_append_one _ rfl _ _ 29 rfl w2.heap.size 4 i0 (.bool false) 1 Tryz.underlying29 hi hz0 hz1 hz2 rfl _ (L.drop cap) rfl HO3.out b #[.bool b] rfl rfl trivial HLD.out (by decide) HG3.out.size ?_); intro v4 w4 hown4 hgrow4 hnew4; have HO4 := Lib.hid hown4; have HG4 := Lib.hid (grown_new HB3.out hgrow4 (fun c hc => Nat.le_trans HZ.out (HO3.out.lt c hc).1)); clear hown4 hgrow4 hnew4)
    go_ret
    exact ⟨_, rfl, by rw [HD.out]; exact HO4.out.lower HZ.out, HG4.out⟩
  · have HS1 : Hid (SeesG encB w (.slice (a.map (fun x => x.add i)) (L.length - i) (cap - i)) (L.drop i)) := by
      have := HS.out
      rw [if_neg hci] at this
      exact this
    go_enter Tryz.func198, Tryz.ntmps198
    go_wp2_with fail
    refine (HM.out _).mono ?_
    rintro e w2 ⟨rfl, hg⟩
    have HG2 := Lib.hid hg
    clear hg
    go_wp2_with fail
    refine (copyB_any _ _ (L.drop i) 1 (HS1.out.grown HG2.out) (by omega) HLE.out).mono ?_
    rintro e w3 ⟨u, rfl, ho, hg⟩
    have HO3 := Lib.hid ho
    have HG3 := Lib.hid hg
    have HZ := Lib.hid HG2.out.size
    have HB3 := Lib.hid (grownN_trans HG2.out hg)
    clear ho hg
    go_wp2_with (at_builtin; go_loud (refine wpListG_append_one _ rfl _ _ 29 rfl w2.heap.size 4 i0 (.bool false) 1 Tryz.underlying29 hi hz0 hz1 hz2 rfl _ (L.drop i) rfl HO3.out b #[.bool b] rfl rfl trivial HLD.out (by decide) HG3.out.size ?_); intro v4 w4 hown4 hgrow4 hnew4; have HO4 := Lib.hid hown4; have HG4 := Lib.hid (grown_new HB3.out hgrow4 (fun c hc => Nat.le_trans HZ.out (HO3.out.lt c hc).1)); clear hown4 hgrow4 hnew4)
    go_ret
    exact ⟨_, rfl, by rw [HD.out]; exact HO4.out.lower HZ.out, HG4.out⟩
end Go.Proofs.YtonalkamfgpokaaGreat.StI

namespace Go.Proofs.YtonalkamfgpokaaGreat.RuleL
open Go.RowKit Kit Rw Rg Stm StormS StI

theorem sAddDayG (w : World) (v : Value) (L : List Bool) (b : Bool) (hv : SeesG encB w v L) (hL : L.length ≤ 100000000) :
    Calls Tryz.prog 99 #[v, .bool b] w fun e w' => ∃ u, e = .returned u ∧ SitsG encB w' w.heap.size u (addDay L b) ∧ w.grownBy w' none :=
  (sAddDay_any w v L b hv hL).mono fun e w' ⟨u, h1, h2, h3, h4⟩ => ⟨u, h1, ⟨h2, h3⟩, h4⟩

set_option maxHeartbeats 400000 in
theorem toRule_any (w : World) (m n : Int) :
    Calls Tryz.prog 25 #[.agg #[.int .i64 m, .int .i64 n]] w fun e w' => e = .returned (.agg #[.int .i64 m, .int .i64 n]) ∧ w.grownBy w' none := by
  have b1 := (box_new (w.alloc (.cells #[.int .i64 m, .int .i64 n] 26 (0, 0))) #[.int .i64 m, .int .i64 n] 38).grown (World.grownBy_alloc _ (.cells #[.int .i64 m, .int .i64 n] 38 (0, 0)) none)
  simp only [World.size_alloc] at b1
  have HG := Lib.hid (grownN_trans (grownN_trans (World.grownBy_alloc w (.cells #[.int .i64 m, .int .i64 n] 26 (0, 0)) none) (World.grownBy_alloc _ (.cells #[.int .i64 m, .int .i64 n] 38 (0, 0)) none)) (World.grownBy_alloc _ (.cells #[.int .i64 m, .int .i64 n] 38 (0, 0)) none))
  obtain ⟨c0, c1⟩ := two b1
  clear b1
  go_enter Tryz.func25, Tryz.ntmps25
  go_wp2
  refine bodyPost_ret (v := .agg #[.int .i64 m, .int .i64 n]) ?_ rfl ⟨rfl, HG.out⟩
  simp [results, Tryz.results25, go_sem, c0, c1]
end Go.Proofs.YtonalkamfgpokaaGreat.RuleL

namespace Go.Proofs.YtonalkamfgpokaaGreat.LawsP
open Go.RowKit Kit Rw Rg

theorem info_mem : (Tryz.prog.info? 94).map (fun i => (i.zero, i.size, i.bytes)) = some (some (.agg #[.int .i64 0, .int .i64 0]), 2, 16) := by kernel_rfl
theorem twoP {w : World} {b : Nat} {x y : Value} {T : TypeId} (h : Box w b #[x, y] T) : w.cell? ⟨b, 0, none⟩ = some x ∧ w.cell? ⟨b, 1, none⟩ = some y := ⟨h.cell 0, h.cell 1⟩

theorem szP_any (w : World) (v : Value) (X : List (Int × Int)) (left : Int) (hv : SeesG encP w v X) (hl : 0 ≤ left) (hl' : left ≤ 1048576) :
    Calls Tryz.prog 21 #[v, .int .i64 left] w fun e w' => e = .returned (.int .i64 (if (X.length : Int) ≤ left then left - X.length else -1)) ∧ w = w' := by
  have hlen := hv.len
  obtain ⟨a, cap, rfl, _⟩ := hv
  by_cases h : (X.length : Int) ≤ left
  · rw [if_pos h]
    go_enter Tryz.func21, Tryz.ntmps21
    go_wp2
    go_ret
    exact ⟨rfl, rfl⟩
  · rw [if_neg h]
    have h2 : left - (X.length : Int) < 0 := by omega
    go_enter Tryz.func21, Tryz.ntmps21
    go_wp2
    go_ret
    exact ⟨rfl, rfl⟩

set_option maxHeartbeats 400000 in
theorem toDepot_any (w : World) (i s : Int) :
    Calls Tryz.prog 76 #[.agg #[.int .i64 i, .int .i64 s]] w fun e w' => e = .returned (.agg #[.int .i64 i, .int .i64 s]) ∧ w.grownBy w' none := by
  have b1 := (box_new (w.alloc (.cells #[.int .i64 i, .int .i64 s] 96 (0, 0))) #[.int .i64 i, .int .i64 s] 94).grown (World.grownBy_alloc _ (.cells #[.int .i64 i, .int .i64 s] 94 (0, 0)) none)
  simp only [World.size_alloc] at b1
  have HG := Lib.hid (grownN_trans (grownN_trans (World.grownBy_alloc w (.cells #[.int .i64 i, .int .i64 s] 96 (0, 0)) none) (World.grownBy_alloc _ (.cells #[.int .i64 i, .int .i64 s] 94 (0, 0)) none)) (World.grownBy_alloc _ (.cells #[.int .i64 i, .int .i64 s] 94 (0, 0)) none))
  obtain ⟨c0, c1⟩ := twoP b1
  clear b1
  go_enter Tryz.func76, Tryz.ntmps76
  go_wp2
  refine bodyPost_ret (v := .agg #[.int .i64 i, .int .i64 s]) ?_ rfl ⟨rfl, HG.out⟩
  simp [results, Tryz.results76, go_sem, c0, c1]

set_option maxRecDepth 20000 in
set_option maxHeartbeats 1000000 in
theorem to_any (w : World) (v : Value) (X : List (Int × Int)) (hv : SeesG encP w v X) (hn : X.length ≤ 100000000000) :
    Calls Tryz.prog 26 #[v] w fun e w' => ∃ u, e = .returned u ∧ OwnG encP 94 w' w.heap.size u X ∧ w.grownBy w' none := by
  have HV := Lib.hid hv
  have HOK := Lib.hid hv.ok
  obtain ⟨a, cap, rfl, hlc, hcm, hnil, hwf, hcell⟩ := hv
  have hn1 : X.length ≤ maxLen := by unfold maxLen; omega
  clear hwf hcm hnil hcell
  obtain ⟨i0, hi, hz0, hz1, hz2⟩ := info_parts info_mem
  go_enter Tryz.func26, Tryz.ntmps26
  go_wp2_with (at_make; refine wpListG_make (e := encP) _ rfl _ _ 39 rfl w.heap.size 94 i0 (.agg #[.int .i64 0, .int .i64 0]) 16 Tryz.underlying39 hi hz0 hz1 hz2 rfl ⟨rfl, rfl⟩ .i64 .i64 _ _ X.length rfl rfl rfl rfl (by omega) hn1 (Nat.le_refl _) ?_; intro w1 hown hgrow)
  obtain ⟨Z, hZ⟩ : ∃ Z : List (Int × Int), Z = List.replicate X.length encP.dflt := ⟨_, rfl⟩
  have hown : OwnG encP 94 w1 w.heap.size (.slice (some ⟨w.heap.size, 0, none⟩) X.length X.length) (X.take 0 ++ Z.drop 0) := by
    rw [hZ]; simpa using hown
  have hZl : Hid (X.length = Z.length) := by show _ = _; rw [hZ]; simp
  have HO := Lib.hid hown
  have HG := Lib.hid hgrow
  have HS := Lib.hid hgrow.size
  clear hown hgrow hZ
  go_loopw [4] (fun i wr => ∃ j : Nat, j ≤ X.length ∧ i = .int .i64 j ∧ Hid (OwnG encP 94 wr w.heap.size (.slice (some ⟨w.heap.size, 0, none⟩) X.length X.length) (X.take j ++ Z.drop j)) ∧ Hid (w.grownBy wr none))
    (fun i _ => X.length - (intOf i).toNat)
  case atStart => exact ⟨0, Nat.zero_le _, rfl, HO, HG⟩
  case round =>
    obtain ⟨j, hj, rfl, HO1, HG1⟩ := hrel
    by_cases hlt : j < X.length
    · obtain ⟨b, o, rfl, hb, _⟩ := HV.out.at_row hlt
      obtain ⟨e0, e1⟩ := HV.out.atP hlt
      rw [← Nat.add_assoc] at e1
      obtain ⟨x, hx⟩ : ∃ x, x = X.getD j (0, 0) := ⟨_, rfl⟩
      rw [← hx] at e0 e1
      have d0 := HG1.out.cell e0 (by simp)
      have d1 := HG1.out.cell e1 (by simp)
      have HX := Lib.hid hx
      have HXO : Hid (encP.ok x) := by show encP.ok x; rw [hx]; exact HOK.out _ (memG hlt)
      clear hx e0 e1 hb
      obtain ⟨xi, xs⟩ := x
      go_wp2_with fail
      refine (toDepot_any _ xi xs).mono ?_
      rintro e w3 ⟨rfl, hg⟩
      have HG3 := Lib.hid (grownN_trans HG1.out hg)
      have HO3 := Lib.hid (HO1.out.grown hg)
      clear hg d0 d1
      have hlj : j < (X.take j ++ Z.drop j).length := by rw [spliceG_len hZl.out hj]; exact hlt
      obtain ⟨z0, z1⟩ := HO3.out.cellP hlj
      obtain ⟨z, hz⟩ : ∃ z, z = (X.take j ++ Z.drop j).getD j (0, 0) := ⟨_, rfl⟩
      rw [← hz] at z0 z1
      have f0 := HO3.out.free (j * 2)
      have f1 := HO3.out.free (j * 2 + 1)
      have hp := HO3.out.putP (spliceG_len hZl.out hj) hlj (xi, xs) HXO.out
      rw [HX.out, spliceG_set hZl.out hlt] at hp
      have HP := Lib.hid hp
      have HXE : Hid (((xi, xs) : Int × Int) = X.getD j (0, 0)) := HX.out
      clear hz hp hlj
      go_wp2
      go_roundw
      case rel =>
        have hp := HP.out
        rw [← HXE.out] at hp
        exact ⟨j + 1, by omega, by go_num, hp.1, grown_new HG3.out hp.2 (fun c h => by injection h with h; omega)⟩
      case measure => simp [intOf]; omega
    · have : j = X.length := by omega
      subst this
      go_wp2
      go_ret
      exact ⟨_, rfl, by have h := HO1.out; rw [List.take_length, hZl.out, List.drop_length, List.append_nil] at h; rw [hZl.out]; exact h, HG1.out⟩

set_option maxRecDepth 20000 in
set_option maxHeartbeats 400000 in
theorem eqDepot_same (w : World) (i s : Int) :
    Calls Tryz.prog 81 #[.agg #[.int .i64 i, .int .i64 s], .agg #[.int .i64 i, .int .i64 s]] w fun e w' => e = .returned (.bool true) ∧ w.grownBy w' none := by
  have HG := Lib.hid (grownN_trans (World.grownBy_alloc w (.cells #[.int .i64 i, .int .i64 s] 94 (0, 0)) none) (World.grownBy_alloc _ (.cells #[.int .i64 i, .int .i64 s] 94 (0, 0)) none))
  · go_enter Tryz.func81, Tryz.ntmps81
    go_wp2
    go_ret
    exact ⟨rfl, HG.out⟩

set_option maxRecDepth 20000 in
set_option maxHeartbeats 1000000 in
theorem eq_same (w : World) (u v : Value) (X : List (Int × Int)) (hu : SeesG encP w u X) (hv : SeesG encP w v X) :
    Calls Tryz.prog 30 #[u, v] w fun e w' => e = .returned (.bool true) ∧ w.grownBy w' none := by
  have hl := hu.len
  have HU := Lib.hid hu
  have HV := Lib.hid hv
  obtain ⟨a, cap, rfl, _⟩ := hu
  obtain ⟨a2, cap2, rfl, _⟩ := hv
  go_enter Tryz.func30, Tryz.ntmps30
  go_wp2
  go_loopw [5] (fun i wr => ∃ j : Nat, j ≤ X.length ∧ i = .int .i64 j ∧ Hid (w.grownBy wr none)) (fun i _ => X.length - (intOf i).toNat)
  case atStart => exact ⟨0, Nat.zero_le _, rfl, World.grownBy.refl _ _⟩
  case round =>
    obtain ⟨j, hj, rfl, HG1⟩ := hrel
    by_cases hlt : j < X.length
    · obtain ⟨b, o, rfl, _, _⟩ := HU.out.at_row hlt
      obtain ⟨b2, o2, rfl, _, _⟩ := HV.out.at_row hlt
      obtain ⟨x, hx⟩ : ∃ x, X.getD j (0, 0) = x := ⟨_, rfl⟩
      have hS := fun w' (hg : w.grownBy w' none) => And.intro (atP_in HU.out hg hlt hx) (atP_in HV.out hg hlt hx)
      have HS := Lib.hid hS
      clear hS hx
      obtain ⟨xi, xs⟩ := x
      go_wp2_with fail
      refine wp_region_held_drew (S := fun w' => (w'.cell? ⟨b, o + j * 2, none⟩ = some (.int .i64 xi) ∧ w'.cell? ⟨b, o + j * 2 + 1, none⟩ = some (.int .i64 xs)) ∧
        (w'.cell? ⟨b2, o2 + j * 2, none⟩ = some (.int .i64 xi) ∧ w'.cell? ⟨b2, o2 + j * 2 + 1, none⟩ = some (.int .i64 xs))) (by kernel_rfl) (HS.out _ (grown_drew HG1.out)) (fun hHeld => ?_)
      refine wpAnyH_take (i := 0) (v := ?_) rfl (by kernel_rfl) (by kernel_rfl) (by kernel_rfl) (fun _ _ _ h => h) (Or.inl ⟨by rfl, ?_⟩) (by assumption) ?_; rotate_left; (focus (intro wS hSw; (try dsimp only at hSw); go_simp <;> with_reducible rfl)); (try simp only [Act.put, List.getElem_toArray, List.getElem_cons_succ, List.getElem_cons_zero, List.setIfInBounds_toArray, List.set_cons_zero, List.set_cons_succ])
      refine wpAnyH_take (i := 1) (v := ?_) rfl (by kernel_rfl) (by kernel_rfl) (by kernel_rfl) (fun _ _ _ h => h) (Or.inl ⟨by rfl, ?_⟩) (by assumption) ?_; rotate_left; (focus (intro wS hSw; (try dsimp only at hSw); go_simp <;> with_reducible rfl)); (try simp only [Act.put, List.getElem_toArray, List.getElem_cons_succ, List.getElem_cons_zero, List.setIfInBounds_toArray, List.set_cons_zero, List.set_cons_succ])
      refine wpAnyH_take (i := 2) (v := ?_) rfl (by kernel_rfl) (by kernel_rfl) (by kernel_rfl) (fun _ _ _ h => h) (Or.inl ⟨by rfl, ?_⟩) (by assumption) ?_; rotate_left; (focus (intro wS hSw; (try dsimp only at hSw); go_simp <;> with_reducible rfl)); (try simp only [Act.put, List.getElem_toArray, List.getElem_cons_succ, List.getElem_cons_zero, List.setIfInBounds_toArray, List.set_cons_zero, List.set_cons_succ])
      refine wpAnyH_take (i := 3) (v := ?_) rfl (by kernel_rfl) (by kernel_rfl) (by kernel_rfl) (fun _ _ _ h => h) (Or.inl ⟨by rfl, ?_⟩) (by assumption) ?_; rotate_left; (focus (intro wS hSw; (try dsimp only at hSw); go_simp <;> with_reducible rfl)); (try simp only [Act.put, List.getElem_toArray, List.getElem_cons_succ, List.getElem_cons_zero, List.setIfInBounds_toArray, List.set_cons_zero, List.set_cons_succ])
      refine wpAnyH_take (i := 4) (v := ?_) rfl (by kernel_rfl) (by kernel_rfl) (by kernel_rfl) (fun _ _ _ h => h) (Or.inl ⟨by rfl, ?_⟩) (by assumption) ?_; rotate_left; (focus (intro wS hSw; (try dsimp only at hSw); go_simp <;> with_reducible rfl)); (try simp only [Act.put, List.getElem_toArray, List.getElem_cons_succ, List.getElem_cons_zero, List.setIfInBounds_toArray, List.set_cons_zero, List.set_cons_succ])
      refine wpAnyH_take (i := 5) (v := ?_) rfl (by kernel_rfl) (by kernel_rfl) (by kernel_rfl) (fun _ _ _ h => h) (Or.inl ⟨by rfl, ?_⟩) (by assumption) ?_; rotate_left; (focus (intro wS hSw; (try dsimp only at hSw); go_simp <;> with_reducible rfl)); (try simp only [Act.put, List.getElem_toArray, List.getElem_cons_succ, List.getElem_cons_zero, List.setIfInBounds_toArray, List.set_cons_zero, List.set_cons_succ])
      refine wpAnyH_take (i := 6) (v := ?_) rfl (by kernel_rfl) (by kernel_rfl) (by kernel_rfl) (fun _ _ _ h => h) (Or.inl ⟨by rfl, ?_⟩) (by assumption) ?_; rotate_left; (focus (intro wS hSw; (try dsimp only at hSw); go_simp <;> with_reducible rfl)); (try simp only [Act.put, List.getElem_toArray, List.getElem_cons_succ, List.getElem_cons_zero, List.setIfInBounds_toArray, List.set_cons_zero, List.set_cons_succ])
      refine wpAnyH_take (i := 7) (v := ?_) rfl (by kernel_rfl) (by kernel_rfl) (by kernel_rfl) (fun _ _ _ h => h) (Or.inl ⟨by rfl, ?_⟩) (by assumption) ?_; rotate_left; (focus (intro wS hSw; (try dsimp only at hSw); go_simp <;> with_reducible rfl)); (try simp only [Act.put, List.getElem_toArray, List.getElem_cons_succ, List.getElem_cons_zero, List.setIfInBounds_toArray, List.set_cons_zero, List.set_cons_succ])
      refine wpAnyH_ready (rs := [8]) (by kernel_rfl) (by simp) ?_; refine AllReadyH.cons rfl (fun K hK => ?_) AllReadyH.nil; go_simp; (go_at_call 81; refine (eqDepot_same _ xi xs).mono ?_; rintro e w5 ⟨rfl, hg5⟩; have HG5 := Lib.hid (grownN_trans (grown_drew HG1.out) hg5); clear hg5)
      refine hK.out _ _ ?_ (fun hHeld => ?_)
      · exact HS.out _ HG5.out
      clear hK K
      (try simp only [Act.put, List.getElem_toArray, List.getElem_cons_succ, List.getElem_cons_zero, List.setIfInBounds_toArray, List.set_cons_zero, List.set_cons_succ])
      refine wpAnyH_take (i := 9) (v := ?_) rfl (by kernel_rfl) (by kernel_rfl) (by kernel_rfl) (fun _ _ _ h => h) (Or.inl ⟨by rfl, ?_⟩) (by assumption) ?_; rotate_left; (focus (intro wS hSw; (try dsimp only at hSw); go_simp <;> with_reducible rfl)); (try simp only [Act.put, List.getElem_toArray, List.getElem_cons_succ, List.getElem_cons_zero, List.setIfInBounds_toArray, List.set_cons_zero, List.set_cons_succ])
      refine wpAnyH_done (by kernel_rfl) ?_ _
      (try simp only [Act.put, List.getElem_toArray, List.getElem_cons_succ, List.getElem_cons_zero, List.setIfInBounds_toArray, List.set_cons_zero, List.set_cons_succ])
      go_wp2
      go_roundw
      case rel => exact ⟨j + 1, by omega, by go_num, HG5⟩
      case measure => simp [intOf]; omega
    · have : j = X.length := by omega
      subst this
      go_wp2
      go_ret
      exact ⟨rfl, HG1.out⟩

def mkP (k : Nat) : Int × Int := ((k : Int), (k : Int) + 1)
/-- The marks from 'm' on. -/
def marksP (m n : Nat) : List (Int × Int) := (List.range n).map (fun j => mkP (m + 2 * j))
theorem marksP_len (m n : Nat) : (marksP m n).length = n := by simp [marksP]
theorem marksP_get {m n j : Nat} (hj : j < n) : (marksP m n).getD j (0, 0) = mkP (m + 2 * j) := by simp [marksP, hj]

set_option maxRecDepth 20000 in
set_option maxHeartbeats 1000000 in
theorem mark_any (w : World) (base : Nat) (v : Value) (X : List (Int × Int)) (m : Nat) (hv : OwnG encP 94 w base v X) (hm : m + 2 * X.length ≤ 4000000000000000000) :
    Calls Tryz.prog 36 #[v, .int .i64 m] w fun e w' => e = .returned (.int .i64 ((m + 2 * X.length : Nat) : Int)) ∧ OwnG encP 94 w' base v (marksP m X.length) ∧ w.grownBy w' v.ownBlock := by
  have HL := Lib.hid (marksP_len m X.length)
  rcases hv.1.2 with ⟨rfl, hn⟩ | ⟨g, cap, cur, rfl, hb, hg, hnc, hcm, hcs, ht⟩
  · have hX : X = [] := List.eq_nil_of_length_eq_zero hn
    subst hX
    have HV := Lib.hid hv
    clear hv
    go_enter Tryz.func36, Tryz.ntmps36
    go_wp2
    refine wp_loop_rounds 1 ?_
    rw [rounds_succ]
    go_wp2
    go_ret
    exact ⟨rfl, HV.out, World.grownBy.refl _ _⟩
  · have hown : OwnG encP 94 w base (.slice (some ⟨g, 0, none⟩) X.length cap) ((marksP m X.length).take 0 ++ X.drop 0) := by simpa using hv
    have HO := Lib.hid hown
    clear hv hown hg hcm hcs ht hb hnc
    go_enter Tryz.func36, Tryz.ntmps36
    go_wp2
    go_loopw [1, 5] (fun q i wr => ∃ j : Nat, j ≤ X.length ∧ i = .int .i64 j ∧ q = .int .i64 ((m : Int) + 2 * j) ∧ Hid (OwnG encP 94 wr base (.slice (some ⟨g, 0, none⟩) X.length cap) ((marksP m X.length).take j ++ X.drop j)) ∧ Hid (w.grownBy wr (some g)))
      (fun _ i _ => X.length - (intOf i).toNat)
    case atStart => exact ⟨0, Nat.zero_le _, rfl, by simp, HO, World.grownBy.refl _ _⟩
    case round =>
      obtain ⟨j, hj, rfl, rfl, HO1, HG1⟩ := hrel
      by_cases hlt : j < X.length
      · have hlj : j < ((marksP m X.length).take j ++ X.drop j).length := by rw [spliceG_len HL.out (by rw [HL.out]; omega), HL.out]; exact hlt
        obtain ⟨z0, z1⟩ := HO1.out.cellP hlj
        obtain ⟨z, hz⟩ : ∃ z, z = ((marksP m X.length).take j ++ X.drop j).getD j (0, 0) := ⟨_, rfl⟩
        rw [← hz] at z0 z1
        have f0 := HO1.out.free (j * 2)
        have f1 := HO1.out.free (j * 2 + 1)
        have hp := HO1.out.putP ((spliceG_len HL.out (by rw [HL.out]; omega)).trans HL.out) hlj (mkP (m + 2 * j)) ⟨i64_mk (by simp only [mkP]; omega), i64_mk (by simp only [mkP]; omega)⟩
        have hse := spliceG_set (d := (0, 0)) HL.out (show j < (marksP m X.length).length by rw [HL.out]; exact hlt)
        rw [marksP_get hlt] at hse
        rw [hse] at hp
        simp only [mkP, Int.natCast_add, Int.natCast_mul] at hp
        have HP := Lib.hid hp
        clear hp hse hz hlj
        go_wp2
        go_roundw
        case rel => exact ⟨j + 1, by omega, by go_num, by go_num, HP.out.1, grownN_trans HG1.out HP.out.2⟩
        case measure => simp [intOf]; omega
      · have : j = X.length := by omega
        subst this
        go_wp2
        go_ret
        have ho := HO1.out
        rw [List.drop_length, List.append_nil, List.take_of_length_le (by rw [HL.out]; exact Nat.le_refl _)] at ho
        exact ⟨by go_num, ho, HG1.out⟩

set_option maxRecDepth 20000 in
set_option maxHeartbeats 1000000 in
theorem held_any (w : World) (v : Value) (m n : Nat) (hv : SeesG encP w v (marksP m n)) (hm : m + 2 * n ≤ 4000000000000000000) :
    Calls Tryz.prog 47 #[v, .int .i64 m] w fun e w' => e = .returned (.int .i64 ((m + 2 * n : Nat) : Int)) ∧ w.grownBy w' none := by
  have HV := Lib.hid hv
  obtain ⟨a, cap, rfl, _⟩ := hv
  rw [marksP_len] at HV
  rw [marksP_len]
  go_enter Tryz.func47, Tryz.ntmps47
  go_wp2
  go_loopw [1, 5] (fun q i wr => ∃ j : Nat, j ≤ n ∧ i = .int .i64 j ∧ q = .int .i64 ((m : Int) + 2 * j) ∧ Hid (w.grownBy wr none))
    (fun _ i _ => n - (intOf i).toNat)
  case atStart => exact ⟨0, Nat.zero_le _, rfl, by simp, World.grownBy.refl _ _⟩
  case round =>
    obtain ⟨j, hj, rfl, rfl, HG1⟩ := hrel
    by_cases hlt : j < n
    · have hlm : j < (marksP m n).length := by rw [marksP_len]; exact hlt
      obtain ⟨b, o, rfl, _, _⟩ := HV.out.at_row hlm
      obtain ⟨d0, d1⟩ := atP_in HV.out HG1.out hlm (marksP_get hlt)
      simp only [mkP, Int.natCast_add, Int.natCast_mul] at d0 d1
      go_wp2
      go_roundw
      case rel => exact ⟨j + 1, by omega, by go_num, by go_num, HG1⟩
      case measure => simp [intOf]; omega
    · have : j = n := by omega
      subst this
      go_wp2
      go_ret
      exact ⟨by go_num, HG1.out⟩
end Go.Proofs.YtonalkamfgpokaaGreat.LawsP

namespace Go.Proofs.YtonalkamfgpokaaGreat.LawsP
open Go.RowKit Kit Rw Rg
theorem szP_yes (w : World) (v : Value) (X : List (Int × Int)) (left : Int) (hv : SeesG encP w v X) (h : (X.length : Int) ≤ left) (hl : 0 ≤ left) (hl' : left ≤ 1048576) :
    Calls Tryz.prog 21 #[v, .int .i64 left] w fun e w' => e = .returned (.int .i64 (left - (X.length : Int))) ∧ w.grownBy w' none := by
  have := szP_any w v X left hv hl hl'
  rw [if_pos h] at this
  exact this.mono fun e w' h => ⟨h.1, by rw [← h.2]; exact World.grownBy.refl _ _⟩
theorem szP_no (w : World) (v : Value) (X : List (Int × Int)) (left : Int) (hv : SeesG encP w v X) (h : ¬ (X.length : Int) ≤ left) (hl : 0 ≤ left) (hl' : left ≤ 1048576) :
    Calls Tryz.prog 21 #[v, .int .i64 left] w fun e w' => e = .returned (.int .i64 (-1)) ∧ w.grownBy w' none := by
  have := szP_any w v X left hv hl hl'
  rw [if_neg h] at this
  exact this.mono fun e w' h => ⟨h.1, by rw [← h.2]; exact World.grownBy.refl _ _⟩
end Go.Proofs.YtonalkamfgpokaaGreat.LawsP

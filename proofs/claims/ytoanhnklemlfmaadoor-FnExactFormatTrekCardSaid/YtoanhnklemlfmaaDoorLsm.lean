/- The model's lists of texts, and the program's functions that write lists. -/
import Derived.Test.YtoanhnklemlfmaaDoorLst
import Derived.Deep.RegionHeldLaw
namespace Go.Proofs.YtoanhnklemlfmaaDoor.Lsm
open Go.RowKit Kit Rw Rg Ld Txt Ctx Pen Lst

theorem info_s : (Tryd.prog.info? 9).map (fun i => (i.zero, i.size, i.bytes)) = some (some (.string ⟨#[]⟩), 1, 16) := by kernel_rfl
theorem sees_nil (w : World) : Sees .i64 w (.slice none 0 0) [] := (show Own .i64 3 w 0 (.slice none 0 0) [] from ⟨World.ownsRow_nil _ _ _ _, by simp⟩).sees
theorem take_next {α : Type} {S : List α} {j : Nat} {d : α} (h : j < S.length) : S.take (j + 1) = S.take j ++ [S.getD j d] := by
  rw [List.take_succ_eq_append_getElem h, show S.getD j d = S[j] by simp [h]]

set_option maxHeartbeats 2000000 in
set_option maxRecDepth 100000 in
theorem sJoin_any (w : World) (v : Value) (S : List ByteArray) (hv : SeesG encS w v S) (hL : ∀ x ∈ S, x.size ≤ 100) (hn : S.length ≤ 2000000) :
    Calls Tryd.prog 75 #[v] w fun e w' => e = .returned (.string (l39 S)) ∧ w.grownBy w' none := by
  obtain ⟨va, vn, vc, rfl, HVN⟩ := hv.shape
  have hvn : vn ≤ 2000000 := by rw [← HVN.out]; exact hn
  have HV := Lib.hid hv
  have HZ := Lib.hid (part_size (sep := ⟨#[32]⟩) (by show 1 ≤ 100; omega) hL)
  have HX : Hid (∀ j, (S.getD j ⟨#[]⟩).size ≤ 100) := fun j => by
    rw [List.getD_eq_getElem?_getD]
    rcases h : S[j]? with _ | x
    · simp [ByteArray.size]
    · exact hL x (List.mem_of_getElem? h)
  clear hv hn hL
  go_enter Tryd.func75, Tryd.ntmps75
  go_wp2
  go_loopw [3, 4] (fun s i wr => ∃ j : Nat, ∃ t : ByteArray, j ≤ vn ∧ i = .int .i64 j ∧ s = .string t ∧ Hid (t = Txt.part ⟨#[32]⟩ S j) ∧ Hid (w.grownBy wr none)) (fun _ i _ => vn - (intOf i).toNat)
  case atStart => exact ⟨0, ⟨#[]⟩, Nat.zero_le _, rfl, rfl, rfl, World.grownBy.refl _ _⟩
  case round =>
    obtain ⟨j, t, hj, rfl, rfl, HT, HG⟩ := hrel
    have hz : t.size ≤ 600000000 := by rw [HT.out]; have := HZ.out j; omega
    by_cases hlt : j < vn
    · have hjl : j < S.length := by rw [HVN.out]; exact hlt
      obtain ⟨b, o, rfl, _⟩ := HV.out.at_row hjl
      obtain ⟨x, hx⟩ : ∃ x, x = S.getD j ⟨#[]⟩ := ⟨_, rfl⟩
      have d0 := (HV.out.grown HG.out).at' hjl (i := 0) (by decide)
      have d0 : World.cell? wr ⟨b, o + j, none⟩ = some (.string x) := by rw [hx]; simpa [encS] using d0
      have hxs : x.size ≤ 100 := by rw [hx]; exact HX.out j
      have HXD := Lib.hid hx
      clear hx hjl
      rcases Nat.eq_zero_or_pos j with rfl | h0
      · have HN : Hid (Txt.part ⟨#[32]⟩ S 1 = t ++ x) := by show _ = _; rw [HT.out, HXD.out]; rfl
        rw [Nat.add_zero] at d0
        have hs1 : ¬ (9223372036854775807 < t.size + x.size) := by omega
        clear hz hxs
        go_wp2
        go_roundw
        case rel => exact ⟨1, _, by omega, by go_num, rfl, HN.out.symm, HG⟩
        case measure => simp [intOf]; omega
      · have HN : Hid (Txt.part ⟨#[32]⟩ S (j + 1) = t ++ ⟨#[32]⟩ ++ x) := by show _ = _; rw [part_next _ _ h0, HT.out, HXD.out]
        have hs0 : ¬ (9223372036854775807 < t.size + 1) := by omega
        have hs1 : ¬ (9223372036854775807 < (t ++ ⟨#[32]⟩).size + x.size) := by rw [size_app, one_size]; omega
        have hs2 : ¬ (9223372036854775807 < t.size + 1 + x.size) := by omega
        clear hz hxs
        go_wp2
        go_roundw
        case rel => exact ⟨j + 1, _, by omega, by go_num, rfl, HN.out.symm, HG⟩
        case measure => simp [intOf]; omega
    · have hju : vn = j := by omega
      subst hju
      by_cases h0 : vn = 0
      · have HR : Hid (l39 S = ⟨#[45]⟩) := l39_no (by rw [HVN.out]; exact h0)
        subst h0
        go_wp2
        go_ret
        exact ⟨ret_s HR.out.symm, HG.out⟩
      · have HR : Hid (l39 S = t) := by show _ = _; rw [l39_yes (by rw [HVN.out]; exact h0), HVN.out, HT.out]
        have hb0 : ((vn : Int) == 0) = false := by simpa using h0
        clear h0 hz
        go_wp2
        go_ret
        exact ⟨ret_s HR.out.symm, HG.out⟩

set_option maxHeartbeats 2000000 in
set_option maxRecDepth 100000 in
theorem sNumbers_any (w : World) (v : Value) (L : List Int) (hv : Sees .i64 w v L) (hn : L.length ≤ 2000000) :
    Calls Tryd.prog 30 #[v] w fun e w' => e = .returned (.string (l39 (L.map num))) ∧ w.grownBy w' none := by
  obtain ⟨i0, hi, hz0, hz1, hz2⟩ := info_parts info_s
  obtain ⟨va, vn, vc, rfl, HVN⟩ := hv.shape
  have hvn : vn ≤ 2000000 := by rw [← HVN.out]; exact hn
  have HV := Lib.hid hv
  have HWF := Lib.hid hv.wf
  have HO0 := Lib.hid (ownG_empty (e := encS) (E := 9) w)
  have HG0 := Lib.hid (World.grownBy_alloc w (.cells #[] 9 (0, 0)) none)
  have HLT0 : Hid (w.heap.size ≤ (w.alloc (.cells #[] 9 (0, 0))).heap.size) := by show _ ≤ _; rw [World.size_alloc]; omega
  obtain ⟨S, hS⟩ : ∃ S, S = L.map num := ⟨_, rfl⟩
  have HML : Hid (S.length = vn) := by show _ = _; rw [hS, List.length_map]; exact HVN.out
  have HSZ : Hid (∀ x ∈ S, x.size ≤ 100) := by rw [hS]; exact map_size (sizesI HWF.out)
  rw [← hS]
  have HAT : Hid (∀ j, j < vn → S.getD j ⟨#[]⟩ = num (L.getD j 0)) := fun j hj => by rw [hS]; exact getD_map' num L 0 (by rw [HVN.out]; exact hj)
  clear hv hn hS
  go_enter Tryd.func30, Tryd.ntmps30
  go_wp2
  generalize w.alloc (.cells #[] 9 (0, 0)) = W1 at *
  go_loopw [3, 4] (fun u i wr => ∃ j : Nat, j ≤ vn ∧ i = .int .i64 j ∧ Hid (OwnG encS 9 wr w.heap.size u (S.take j)) ∧ Hid (w.grownBy wr none)) (fun _ i _ => vn - (intOf i).toNat)
  case atStart => exact ⟨0, Nat.zero_le _, rfl, HO0, HG0⟩
  case round =>
    rename_i u _ wr
    obtain ⟨j, hj, rfl, HO, HG⟩ := hrel
    by_cases hlt : j < vn
    · have hjl : j < L.length := by rw [HVN.out]; exact hlt
      obtain ⟨b, o, rfl, _⟩ := HV.out.at_row hjl
      obtain ⟨x, hx⟩ : ∃ x, x = L.getD j 0 := ⟨_, rfl⟩
      have HXD := Lib.hid hx
      have HXB := Lib.hid (i64_of (HWF.out x (by rw [hx]; exact getD_mem hjl)))
      have d0 := (HV.out.grown HG.out).at' hjl
      rw [← hx] at d0
      have HN : Hid (S.take (j + 1) = S.take j ++ [num x]) := by show _ = _; rw [take_next (d := ⟨#[]⟩) (by rw [HML.out]; exact hlt), HAT.out j hlt, HXD.out]
      have HLN : Hid ((S.take j).length ≤ 1000000000) := by show _ ≤ _; rw [List.length_take]; omega
      have HLT : Hid (w.heap.size ≤ wr.heap.size) := HG.out.size
      clear hx hjl
      go_wp2_with fail
      refine (sNum_any _ x HXB.out).mono ?_
      rintro e w5 ⟨rfl, hg⟩
      have HG5 := Lib.hid (grownN_trans HG.out hg)
      have HO5 := Lib.hid (HO.out.grown hg)
      clear hg
      go_wp2_with (at_builtin; go_loud (refine wpListG_append_one (e := encS) _ rfl _ _ 88 rfl w.heap.size 9 i0 (.string ⟨#[]⟩) 16 Tryd.underlying88 hi hz0 hz1 hz2 rfl _ (S.take j) rfl HO5.out (num x) #[.string (num x)] rfl rfl trivial HLN.out (by decide) HG5.out.size ?_); intro v6 w6 hown6 hgrow6 hloc6; have HO6 := Lib.hid hown6; have HG6 := Lib.hid (grown_new HG5.out hgrow6 (fun c hc => (HO5.out.lt c hc).1)); clear hown6 hgrow6 hloc6)
      go_roundw
      case rel => exact ⟨j + 1, by omega, by go_num, by rw [HN.out]; exact HO6, HG6⟩
      case measure => simp [intOf]; omega
    · have hju : vn = j := by omega
      subst hju
      have HS : Hid (S.take vn = S) := by show _ = _; rw [← HML.out, List.take_length]
      go_wp2_with fail
      refine (sJoin_any _ _ S (by have h := HO.out.sees; rw [HS.out] at h; exact h) HSZ.out (by rw [HML.out]; exact hvn)).mono ?_
      rintro e w5 ⟨rfl, hg⟩
      have HG5 := Lib.hid (grownN_trans HG.out hg)
      clear hg
      go_wp2
      go_ret
      exact ⟨rfl, HG5.out⟩

set_option maxRecDepth 100000 in
theorem iNumbers_any (w : World) (v : Value) (L : List Int) (hv : Sees .i64 w v L) (hn : L.length ≤ 2000000) (htab : Fmt.Pow10 w) :
    Calls Tryd.prog 31 #[v] w fun e w' => e = .returned (.string (l39 (L.map num))) ∧ w.grownBy w' none := by
  have HC := Lib.hid (lNum_any w 0 0 (.slice none 0 0) v [] L (sees_nil w) hv hn htab)
  obtain ⟨va, vn, vc, rfl, HVN⟩ := hv.shape
  clear hv hn htab
  go_enter Tryd.func31, Tryd.ntmps31
  go_wp2_with fail
  refine HC.out.mono ?_
  rintro e w2 ⟨rfl, hg⟩
  have HG2 := Lib.hid hg
  clear hg
  go_wp2
  go_ret
  exact ⟨rfl, HG2.out⟩

set_option maxHeartbeats 4000000 in
set_option maxRecDepth 100000 in
theorem sCells_any (w : World) (W H : Int) (lv v : Value) (X : List Int) (L : List Int) (hX : Sees .i64 w lv X) (hv : Sees .i64 w v L) (hn : L.length ≤ 2000000) :
    Calls Tryd.prog 42 #[.agg #[.int .i64 W, .int .i64 H, lv], v] w fun e w' => e = .returned (.string (l39 (L.map (cellQ W H X)))) ∧ w.grownBy w' none := by
  obtain ⟨i0, hi, hz0, hz1, hz2⟩ := info_parts info_s
  obtain ⟨va, vn, vc, rfl, HVN⟩ := hv.shape
  obtain ⟨la, ln, lc, rfl, HLN⟩ := hX.shape
  have hvn : vn ≤ 2000000 := by rw [← HVN.out]; exact hn
  have hg1 := World.grownBy_alloc w (.cells #[.int .i64 W, .int .i64 H, .slice la ln lc] 27 (0, 0)) none
  have HS1 : Hid ((w.alloc (.cells #[.int .i64 W, .int .i64 H, .slice la ln lc] 27 (0, 0))).heap.size = w.heap.size + 1) := World.size_alloc _ _
  have HX := Lib.hid (hX.grown hg1)
  have HV := Lib.hid (hv.grown hg1)
  have HG1 := Lib.hid hg1
  have HB0 := Lib.hid (box_new w #[.int .i64 W, .int .i64 H, .slice la ln lc] 27)
  have HO0 := Lib.hid (ownG_empty (e := encS) (E := 9) (w.alloc (.cells #[.int .i64 W, .int .i64 H, .slice la ln lc] 27 (0, 0))))
  have HG0 := Lib.hid (World.grownBy_alloc (w.alloc (.cells #[.int .i64 W, .int .i64 H, .slice la ln lc] 27 (0, 0))) (.cells #[] 9 (0, 0)) none)
  have HWF := Lib.hid hv.wf
  have HSZ0 : Hid (∀ x ∈ L.map (cellQ W H X), x.size ≤ 100) := map_size (f := cellQ W H X) (sizesC W H X L)
  have HML0 : Hid ((L.map (cellQ W H X)).length = vn) := by show _ = _; rw [List.length_map]; exact HVN.out
  obtain ⟨S, hS⟩ : ∃ S, S = L.map (cellQ W H X) := ⟨_, rfl⟩
  rw [← hS] at HSZ0 HML0 ⊢
  have HAT : Hid (∀ j, j < vn → S.getD j ⟨#[]⟩ = (cellQ W H X) (L.getD j 0)) := fun j hj => by rw [hS]; exact getD_map' (cellQ W H X) L 0 (by rw [HVN.out]; exact hj)
  clear hg1 hX hv hn hS
  go_enter Tryd.func42, Tryd.ntmps42
  go_wp2
  generalize w.alloc (.cells #[.int .i64 W, .int .i64 H, .slice la ln lc] 27 (0, 0)) = W1 at *
  generalize W1.alloc (.cells #[] 9 (0, 0)) = W2 at *
  rw [HS1.out] at HO0
  have HB : Hid (Box W1 w.heap.size #[.int .i64 W, .int .i64 H, .slice la ln lc] 27) := HB0
  clear HB0
  go_loopw [5, 6] (fun u i wr => ∃ j : Nat, j ≤ vn ∧ i = .int .i64 j ∧ Hid (OwnG encS 9 wr (w.heap.size + 1) u (S.take j)) ∧ Hid (W1.grownBy wr none)) (fun _ i _ => vn - (intOf i).toNat)
  case atStart => exact ⟨0, Nat.zero_le _, rfl, HO0, HG0⟩
  case round =>
    rename_i u _ wr
    obtain ⟨j, hj, rfl, HO, HG⟩ := hrel
    by_cases hlt : j < vn
    · have hjl : j < L.length := by rw [HVN.out]; exact hlt
      have hjv : (j : Int) < (vn : Int) := by omega
      have hj0 : (0 : Int) ≤ (j : Int) := by omega
      obtain ⟨b, o, rfl, _⟩ := HV.out.at_row hjl
      obtain ⟨x, hx⟩ : ∃ x, x = L.getD j 0 := ⟨_, rfl⟩
      have HN : Hid (S.take (j + 1) = S.take j ++ [cellQ W H X x]) := by show _ = _; rw [take_next (d := ⟨#[]⟩) (by rw [HML0.out]; exact hlt), HAT.out j hlt, hx]
      obtain ⟨q, hq⟩ : ∃ q, q = cellQ W H X x := ⟨_, rfl⟩
      have hcq := fun W' hx' => sQ_any W' W H x (.slice la ln lc) X hx'
      rw [← hq] at HN hcq
      have HCQ := Lib.hid hcq
      have HD : Hid (∀ W', W1.grownBy W' none → W'.cell? ⟨w.heap.size, 0, none⟩ = some (.int .i64 W) ∧ W'.cell? ⟨w.heap.size, 1, none⟩ = some (.int .i64 H) ∧ W'.cell? ⟨w.heap.size, 2, none⟩ = some (.slice la ln lc) ∧ W'.cell? ⟨b, o + j, none⟩ = some (.int .i64 x)) := fun W' hg => by
        have hb := HB.out.grown hg
        have d0 := (HV.out.grown hg).at' hjl
        rw [← hx] at d0
        exact ⟨hb.cell 0, hb.cell 1, hb.cell 2, d0⟩
      clear hx hq hcq
      have HLN2 : Hid ((S.take j).length ≤ 1000000000) := by show _ ≤ _; rw [List.length_take]; omega
      have HQ0 := Lib.hid (grownN_trans HG.out (grown_drew (World.grownBy.refl wr none)))
      have HOD := Lib.hid (HO.out.grown (grown_drew (World.grownBy.refl wr none)))
      clear hjl
      go_wp2_with fail
      go_region_held_law (fun w' => w'.cell? ⟨w.heap.size, 0, none⟩ = some (.int .i64 W) ∧ w'.cell? ⟨w.heap.size, 1, none⟩ = some (.int .i64 H) ∧ w'.cell? ⟨w.heap.size, 2, none⟩ = some (.slice la ln lc) ∧ w'.cell? ⟨b, o + j, none⟩ = some (.int .i64 x)) (first | exact HD.out _ HQ0.out | exact HD.out _ HQ1.out | exact HD.out _ HQ2.out | exact HD.out _ HQ3.out | exact HD.out _ (grownN_trans HQ1.out (World.grownBy_alloc _ _ none)) | exact HD.out _ (grownN_trans HQ2.out (World.grownBy_alloc _ _ none)) | exact HD.out _ (grownN_trans HQ3.out (World.grownBy_alloc _ _ none)) | exact HD.out _ HQZ.out) (first
        | (go_at_call 78; refine (HCQ.out _ (HX.out.grown HQ0.out)).mono ?_; rintro e wA ⟨rfl, hgA⟩; have HQ1 := Lib.hid (grownN_trans HQ0.out hgA); have HO1 := Lib.hid (HOD.out.grown hgA); clear hgA)
        | (refine App.stepG_append (e := encS) _ (by rfl) _ _ 88 (by rfl) (w.heap.size + 1) 9 i0 (.string ⟨#[]⟩) 16 Tryd.underlying88 hi hz0 hz1 hz2 (by rfl) _ (S.take j) (by rfl) (HO1.out.grown (World.grownBy_alloc _ _ none)) _ [q] (by rfl) (seesG_one (e := encS) (E := 9) _ (q) #[.string (q)] rfl trivial) (by have := HLN2.out; unfold maxLen; simp; omega) (by have := HLN2.out; simp; omega) W1 (grownN_trans HQ1.out (World.grownBy_alloc _ _ none)) HS1.out ?_; intro v2 w2 ho2 hgr2 hw2; have HOZ := Lib.hid ho2; have HQZ := Lib.hid hw2; clear ho2 hgr2 hw2))
      all_goals
        go_wp2
        go_roundw
        case rel => exact ⟨j + 1, by omega, by go_num, by rw [HN.out]; exact HOZ, HQZ⟩
        case measure => simp [intOf]; omega
    · have hju : vn = j := by omega
      subst hju
      have HS : Hid (S.take vn = S) := by show _ = _; rw [← HML0.out, List.take_length]
      go_wp2_with fail
      refine (sJoin_any _ _ S (by have h := HO.out.sees; rw [HS.out] at h; exact h) HSZ0.out (by rw [HML0.out]; exact hvn)).mono ?_
      rintro e w5 ⟨rfl, hg⟩
      have HG5 := Lib.hid (grownN_trans (grownN_trans HG1.out HG.out) hg)
      clear hg
      go_wp2
      go_ret
      exact ⟨rfl, HG5.out⟩

set_option maxRecDepth 100000 in
theorem iCells_any (w : World) (W H : Int) (lv v : Value) (X : List Int) (L : List Int) (hX : Sees .i64 w lv X) (hv : Sees .i64 w v L) (hn : L.length ≤ 2000000) (htab : Fmt.Pow10 w) :
    Calls Tryd.prog 43 #[.agg #[.int .i64 W, .int .i64 H, lv], v] w fun e w' => e = .returned (.string (l39 (L.map (cellQ W H X)))) ∧ w.grownBy w' none := by
  have hgr := World.grownBy_alloc w (.cells #[.int .i64 W, .int .i64 H, lv] 27 (0, 0)) none
  have HG := Lib.hid hgr
  have HB := Lib.hid (box_new w #[.int .i64 W, .int .i64 H, lv] 27)
  obtain ⟨c0, c1, c2⟩ := HB.out.three
  have HC := Lib.hid (lCel_any _ W H lv v X L (hX.grown hgr) (hv.grown hgr) hn (pow_grown htab hgr))
  obtain ⟨la, ln, lc, rfl, HLN⟩ := hX.shape
  obtain ⟨va, vn, vc, rfl, HVN⟩ := hv.shape
  clear hgr hX hv hn htab
  go_enter Tryd.func43, Tryd.ntmps43
  go_wp2_with fail
  refine HC.out.mono ?_
  rintro e w2 ⟨rfl, hg⟩
  have HG2 := Lib.hid (grownN_trans HG.out hg)
  clear hg
  go_wp2
  go_ret
  exact ⟨rfl, HG2.out⟩

set_option maxHeartbeats 4000000 in
set_option maxRecDepth 100000 in
theorem sDepots_any (w : World) (W H : Int) (lv v : Value) (X : List Int) (L : List (Int × Int)) (hX : Sees .i64 w lv X) (hv : SeesG encP w v L) (hn : L.length ≤ 2000000) :
    Calls Tryd.prog 33 #[.agg #[.int .i64 W, .int .i64 H, lv], v] w fun e w' => e = .returned (.string (l39 (L.map (depT W H X)))) ∧ w.grownBy w' none := by
  obtain ⟨i0, hi, hz0, hz1, hz2⟩ := info_parts info_s
  obtain ⟨va, vn, vc, rfl, HVN⟩ := hv.shape
  obtain ⟨la, ln, lc, rfl, HLN⟩ := hX.shape
  have hvn : vn ≤ 2000000 := by rw [← HVN.out]; exact hn
  have hg1 := World.grownBy_alloc w (.cells #[.int .i64 W, .int .i64 H, .slice la ln lc] 27 (0, 0)) none
  have HS1 : Hid ((w.alloc (.cells #[.int .i64 W, .int .i64 H, .slice la ln lc] 27 (0, 0))).heap.size = w.heap.size + 1) := World.size_alloc _ _
  have HX := Lib.hid (hX.grown hg1)
  have HV := Lib.hid (hv.grown hg1)
  have HG1 := Lib.hid hg1
  have HB0 := Lib.hid (box_new w #[.int .i64 W, .int .i64 H, .slice la ln lc] 27)
  have HO0 := Lib.hid (ownG_empty (e := encS) (E := 9) (w.alloc (.cells #[.int .i64 W, .int .i64 H, .slice la ln lc] 27 (0, 0))))
  have HG0 := Lib.hid (World.grownBy_alloc (w.alloc (.cells #[.int .i64 W, .int .i64 H, .slice la ln lc] 27 (0, 0))) (.cells #[] 9 (0, 0)) none)
  have HWF := Lib.hid hv.ok
  have HSZ0 : Hid (∀ x ∈ L.map (depT W H X), x.size ≤ 100) := map_size (f := depT W H X) (sizesD W H X HWF.out)
  have HML0 : Hid ((L.map (depT W H X)).length = vn) := by show _ = _; rw [List.length_map]; exact HVN.out
  obtain ⟨S, hS⟩ : ∃ S, S = L.map (depT W H X) := ⟨_, rfl⟩
  rw [← hS] at HSZ0 HML0 ⊢
  have HAT : Hid (∀ j, j < vn → S.getD j ⟨#[]⟩ = (depT W H X) (L.getD j (0, 0))) := fun j hj => by rw [hS]; exact getD_map' (depT W H X) L (0, 0) (by rw [HVN.out]; exact hj)
  clear hg1 hX hv hn hS
  go_enter Tryd.func33, Tryd.ntmps33
  go_wp2
  generalize w.alloc (.cells #[.int .i64 W, .int .i64 H, .slice la ln lc] 27 (0, 0)) = W1 at *
  generalize W1.alloc (.cells #[] 9 (0, 0)) = W2 at *
  rw [HS1.out] at HO0
  have HB : Hid (Box W1 w.heap.size #[.int .i64 W, .int .i64 H, .slice la ln lc] 27) := HB0
  clear HB0
  go_loopw [5, 6] (fun u i wr => ∃ j : Nat, j ≤ vn ∧ i = .int .i64 j ∧ Hid (OwnG encS 9 wr (w.heap.size + 1) u (S.take j)) ∧ Hid (W1.grownBy wr none)) (fun _ i _ => vn - (intOf i).toNat)
  case atStart => exact ⟨0, Nat.zero_le _, rfl, HO0, HG0⟩
  case round =>
    rename_i u _ wr
    obtain ⟨j, hj, rfl, HO, HG⟩ := hrel
    by_cases hlt : j < vn
    · have hjl : j < L.length := by rw [HVN.out]; exact hlt
      have hjv : (j : Int) < (vn : Int) := by omega
      have hj0 : (0 : Int) ≤ (j : Int) := by omega
      obtain ⟨b, o, rfl, _⟩ := HV.out.at_row hjl
      obtain ⟨x, hx⟩ : ∃ x, x = L.getD j (0, 0) := ⟨_, rfl⟩
      have HN : Hid (S.take (j + 1) = S.take j ++ [depT W H X x]) := by show _ = _; rw [take_next (d := ⟨#[]⟩) (by rw [HML0.out]; exact hlt), HAT.out j hlt, hx]
      have hok := HWF.out x (by rw [hx]; exact getD_mem hjl)
      have HXB := Lib.hid (i64_of hok.2)
      have hd := fun W' (hg : W1.grownBy W' none) => (HV.out.grown hg).atP hjl
      rw [← hx] at hd
      obtain ⟨x0, x1⟩ := x
      obtain ⟨q, hq⟩ : ∃ q, q = cellQ W H X x0 := ⟨_, rfl⟩
      obtain ⟨m, hm⟩ : ∃ m, m = num x1 := ⟨_, rfl⟩
      have hqs : q.size ≤ 40 := by rw [hq]; exact q_size W H X x0
      have hms : m.size ≤ 25 := by rw [hm]; exact num_size HXB.out.1 HXB.out.2
      have hcq := fun W' hx' => sQ_any W' W H x0 (.slice la ln lc) X hx'
      have hcm := fun W' => sNum_any W' x1 HXB.out
      unfold depT at HN
      dsimp only at HN hd
      rw [← hq] at hcq
      rw [← hm] at hcm
      rw [← hq, ← hm] at HN
      have HCQ := Lib.hid hcq
      have HCM := Lib.hid hcm
      have HD : Hid (∀ W', W1.grownBy W' none → W'.cell? ⟨w.heap.size, 0, none⟩ = some (.int .i64 W) ∧ W'.cell? ⟨w.heap.size, 1, none⟩ = some (.int .i64 H) ∧ W'.cell? ⟨w.heap.size, 2, none⟩ = some (.slice la ln lc) ∧ W'.cell? ⟨b, o + j * 2, none⟩ = some (.int .i64 x0) ∧ W'.cell? ⟨b, o + j * 2 + 1, none⟩ = some (.int .i64 x1)) := fun W' hg => by
        have hb := HB.out.grown hg
        obtain ⟨d0, d1⟩ := hd W' hg
        simp only [← Nat.add_assoc] at d1
        exact ⟨hb.cell 0, hb.cell 1, hb.cell 2, d0, d1⟩
      have hs0 : ¬ (9223372036854775807 < q.size + 1) := by omega
      have hs1 : ¬ (9223372036854775807 < (q ++ ⟨#[58]⟩).size + m.size) := by rw [size_app, one_size]; omega
      have hs2 : ¬ (9223372036854775807 < q.size + 1 + m.size) := by omega
      clear hx hq hm hcq hcm hd hok hqs hms
      have HLN2 : Hid ((S.take j).length ≤ 1000000000) := by show _ ≤ _; rw [List.length_take]; omega
      have HQ0 := Lib.hid (grownN_trans HG.out (grown_drew (World.grownBy.refl wr none)))
      have HOD := Lib.hid (HO.out.grown (grown_drew (World.grownBy.refl wr none)))
      clear hjl
      go_wp2_with fail
      go_region_held_law (fun w' => w'.cell? ⟨w.heap.size, 0, none⟩ = some (.int .i64 W) ∧ w'.cell? ⟨w.heap.size, 1, none⟩ = some (.int .i64 H) ∧ w'.cell? ⟨w.heap.size, 2, none⟩ = some (.slice la ln lc) ∧ w'.cell? ⟨b, o + j * 2, none⟩ = some (.int .i64 x0) ∧ w'.cell? ⟨b, o + j * 2 + 1, none⟩ = some (.int .i64 x1)) (first | exact HD.out _ HQ0.out | exact HD.out _ HQ1.out | exact HD.out _ HQ2.out | exact HD.out _ HQ3.out | exact HD.out _ (grownN_trans HQ1.out (World.grownBy_alloc _ _ none)) | exact HD.out _ (grownN_trans HQ2.out (World.grownBy_alloc _ _ none)) | exact HD.out _ (grownN_trans HQ3.out (World.grownBy_alloc _ _ none)) | exact HD.out _ HQZ.out) (first
        | (go_at_call 78; refine (HCQ.out _ (HX.out.grown HQ0.out)).mono ?_; rintro e wA ⟨rfl, hgA⟩; have HQ1 := Lib.hid (grownN_trans HQ0.out hgA); have HO1 := Lib.hid (HOD.out.grown hgA); clear hgA)
        | (go_at_call 57; refine (HCM.out _).mono ?_; rintro e wB ⟨rfl, hgB⟩; have HQ2 := Lib.hid (grownN_trans HQ1.out hgB); have HO2 := Lib.hid (HO1.out.grown hgB); clear hgB)
        | (refine App.stepG_append (e := encS) _ (by rfl) _ _ 88 (by rfl) (w.heap.size + 1) 9 i0 (.string ⟨#[]⟩) 16 Tryd.underlying88 hi hz0 hz1 hz2 (by rfl) _ (S.take j) (by rfl) (HO2.out.grown (World.grownBy_alloc _ _ none)) _ [q ++ ⟨#[58]⟩ ++ m] (by rfl) (seesG_one (e := encS) (E := 9) _ (q ++ ⟨#[58]⟩ ++ m) #[.string (q ++ ⟨#[58]⟩ ++ m)] rfl trivial) (by have := HLN2.out; unfold maxLen; simp; omega) (by have := HLN2.out; simp; omega) W1 (grownN_trans HQ2.out (World.grownBy_alloc _ _ none)) HS1.out ?_; intro v2 w2 ho2 hgr2 hw2; have HOZ := Lib.hid ho2; have HQZ := Lib.hid hw2; clear ho2 hgr2 hw2))
      all_goals
        go_wp2
        go_roundw
        case rel => exact ⟨j + 1, by omega, by go_num, by rw [HN.out]; exact HOZ, HQZ⟩
        case measure => simp [intOf]; omega
    · have hju : vn = j := by omega
      subst hju
      have HS : Hid (S.take vn = S) := by show _ = _; rw [← HML0.out, List.take_length]
      go_wp2_with fail
      refine (sJoin_any _ _ S (by have h := HO.out.sees; rw [HS.out] at h; exact h) HSZ0.out (by rw [HML0.out]; exact hvn)).mono ?_
      rintro e w5 ⟨rfl, hg⟩
      have HG5 := Lib.hid (grownN_trans (grownN_trans HG1.out HG.out) hg)
      clear hg
      go_wp2
      go_ret
      exact ⟨rfl, HG5.out⟩

set_option maxRecDepth 100000 in
theorem iDepots_any (w : World) (W H : Int) (lv v : Value) (X : List Int) (L : List (Int × Int)) (hX : Sees .i64 w lv X) (hv : SeesG encP w v L) (hn : L.length ≤ 2000000) (htab : Fmt.Pow10 w) :
    Calls Tryd.prog 35 #[.agg #[.int .i64 W, .int .i64 H, lv], v] w fun e w' => e = .returned (.string (l39 (L.map (depT W H X)))) ∧ w.grownBy w' none := by
  have hgr := World.grownBy_alloc w (.cells #[.int .i64 W, .int .i64 H, lv] 27 (0, 0)) none
  have HG := Lib.hid hgr
  have HB := Lib.hid (box_new w #[.int .i64 W, .int .i64 H, lv] 27)
  obtain ⟨c0, c1, c2⟩ := HB.out.three
  have HC := Lib.hid (lDep_any _ W H lv v X L (hX.grown hgr) (hv.grown hgr) hn (pow_grown htab hgr))
  obtain ⟨la, ln, lc, rfl, HLN⟩ := hX.shape
  obtain ⟨va, vn, vc, rfl, HVN⟩ := hv.shape
  clear hgr hX hv hn htab
  go_enter Tryd.func35, Tryd.ntmps35
  go_wp2_with fail
  refine HC.out.mono ?_
  rintro e w2 ⟨rfl, hg⟩
  have HG2 := Lib.hid (grownN_trans HG.out hg)
  clear hg
  go_wp2
  go_ret
  exact ⟨rfl, HG2.out⟩
end Go.Proofs.YtoanhnklemlfmaaDoor.Lsm

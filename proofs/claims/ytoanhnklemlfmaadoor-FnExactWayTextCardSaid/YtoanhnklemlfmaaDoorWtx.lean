/- Contracts of a way's text, of the program and of its model. -/
import Derived.Test.YtoanhnklemlfmaaDoorCtx
import Derived.Deep.RegionHeld3
namespace Go.Proofs.YtoanhnklemlfmaaDoor.Wtx
open Go.RowKit Kit Rw Rg Ld Txt Ctx

theorem info_s : (Tryd.prog.info? 9).map (fun i => (i.zero, i.size, i.bytes)) = some (some (.string ⟨#[]⟩), 1, 16) := by kernel_rfl
theorem take_next {α : Type} {S : List α} {j : Nat} {d : α} (h : j < S.length) : S.take (j + 1) = S.take j ++ [S.getD j d] := by
  rw [List.take_succ_eq_append_getElem h, show S.getD j d = S[j] by simp [h]]
noncomputable def wayT (W H : Int) (X L : List Int) : ByteArray := if L.length = 0 then ⟨#[45]⟩ else if L.all (isCell W H X) = true then joinB ⟨#[45]⟩ (L.map (cellT W H X)) else ⟨#[]⟩
theorem way_nil {W H : Int} {X L : List Int} (h : L.length = 0) : wayT W H X L = ⟨#[45]⟩ := if_pos h
theorem way_bad {W H : Int} {X L : List Int} {j : Nat} (hj : j < L.length) (h : isCell W H X (L.getD j 0) = false) : wayT W H X L = ⟨#[]⟩ := by
  unfold wayT
  rw [if_neg (by omega), if_neg]
  intro e
  rw [List.all_eq_true] at e
  have := e (L.getD j 0) (by rw [List.getD_eq_getElem?_getD, List.getElem?_eq_getElem hj]; exact List.getElem_mem hj)
  rw [h] at this; cases this
theorem way_ok {W H : Int} {X L : List Int} (h0 : L.length ≠ 0) (h : ∀ k, k < L.length → isCell W H X (L.getD k 0) = true) : wayT W H X L = joinB ⟨#[45]⟩ (L.map (cellT W H X)) := by
  unfold wayT
  rw [if_neg h0, if_pos]
  rw [List.all_eq_true]
  intro x hx
  obtain ⟨k, hk, rfl⟩ := List.getElem_of_mem hx
  have := h k hk
  rw [List.getD_eq_getElem?_getD, List.getElem?_eq_getElem hk] at this
  exact this
theorem sizes (W H : Int) (X L : List Int) : ∀ x ∈ L.map (cellT W H X), x.size ≤ 100 := fun x hx => by
  obtain ⟨y, _, rfl⟩ := List.mem_map.1 hx
  have := cell_size W H X y; omega
theorem part_next (sep : ByteArray) (S : List ByteArray) {j : Nat} (h : 0 < j) : Txt.part sep S (j + 1) = Txt.part sep S j ++ sep ++ S.getD j ⟨#[]⟩ := by
  show (if j = 0 then _ else _) ++ _ = _
  rw [if_neg (by omega)]

set_option maxHeartbeats 4000000 in
set_option maxRecDepth 100000 in
theorem iWay_any (w : World) (W H : Int) (lv v : Value) (X L : List Int) (hX : Sees .i64 w lv X) (hv : Sees .i64 w v L) (hn : L.length ≤ 2000000) (htab : Fmt.Pow10 w) :
    Calls Tryd.prog 23 #[.agg #[.int .i64 W, .int .i64 H, lv], v] w fun e w' => e = .returned (.string (wayT W H X L)) ∧ w.grownBy w' none := by
  obtain ⟨i0, hi, hz0, hz1, hz2⟩ := info_parts info_s
  obtain ⟨va, vn, vc, rfl, HVN⟩ := hv.shape
  obtain ⟨la, ln, lc, rfl, HLN⟩ := hX.shape
  have hvn : vn ≤ 2000000 := by rw [← HVN.out]; exact hn
  have hg1 := World.grownBy_alloc w (.cells #[.int .i64 W, .int .i64 H, .slice la ln lc] 27 (0, 0)) none
  have HX := Lib.hid (hX.grown hg1)
  have HT := Lib.hid (pow_grown htab hg1)
  have HV := Lib.hid (hv.grown hg1)
  have HG1 := Lib.hid hg1
  have HLT1 : Hid ((w.alloc (.cells #[.int .i64 W, .int .i64 H, .slice la ln lc] 27 (0, 0))).heap.size = w.heap.size + 1) := World.size_alloc _ _
  have HB0 := Lib.hid (box_new w #[.int .i64 W, .int .i64 H, .slice la ln lc] 27)
  obtain ⟨S, hS⟩ : ∃ S, S = L.map (cellT W H X) := ⟨_, rfl⟩
  have HSD : Hid (S = L.map (cellT W H X)) := hS
  have HSZ : Hid (∀ x ∈ S, x.size ≤ 100) := by rw [hS]; exact sizes W H X L
  have HML : Hid (S.length = vn) := by show _ = _; rw [hS, List.length_map]; exact HVN.out
  have HAT : Hid (∀ j, j < vn → S.getD j ⟨#[]⟩ = cellT W H X (L.getD j 0)) := fun j hj => by rw [hS]; simp [HVN.out, hj]
  clear hg1 hX htab hv hn hS
  by_cases h0 : vn = 0
  · have HR : Hid (wayT W H X L = ⟨#[45]⟩) := way_nil (by rw [HVN.out]; exact h0)
    subst h0
    go_enter Tryd.func23, Tryd.ntmps23
    go_wp2
    go_ret
    exact ⟨ret_s HR.out.symm, HG1.out⟩
  · have hb0 : ((vn : Int) == 0) = false := by simpa using h0
    have HNE := Lib.hid h0
    clear h0
    go_enter Tryd.func23, Tryd.ntmps23
    go_wp2_with (at_make; go_loud (refine wpList_make_own _ rfl _ _ 88 rfl (w.heap.size + 1) 9 i0 (.string ⟨#[]⟩) 1 Tryd.underlying88 hi hz0 hz1 .i64 .i64 _ vn rfl rfl rfl (by rw [hz2]; omega) (by unfold maxLen; omega) (Nat.le_of_eq HLT1.out.symm) ?_); intro w1 hown hgrow; have HO : Hid (OwnG encS 9 w1 (w.heap.size + 1) _ []) := ⟨hown, by simp⟩; have HG0 := Lib.hid hgrow; have HBX := Lib.hid (HB0.out.grown hgrow); clear hown hgrow)
    generalize w.alloc (.cells #[.int .i64 W, .int .i64 H, .slice la ln lc] 27 (0, 0)) = W1 at *
    rw [HLT1.out] at HO
    clear hb0
    go_loopw [5, 16] (fun u i wr => ∃ j : Nat, j ≤ vn ∧ i = .int .i64 j ∧ Hid (OwnG encS 9 wr (w.heap.size + 1) u (S.take j)) ∧ Hid (W1.grownBy wr none) ∧ Hid (Box wr w.heap.size #[.int .i64 W, .int .i64 H, .slice la ln lc] 27) ∧ Hid (∀ k, k < j → isCell W H X (L.getD k 0) = true)) (fun _ i _ => vn - (intOf i).toNat)
    case atStart => exact ⟨0, Nat.zero_le _, rfl, HO, HG0, HBX, fun k hk => absurd hk (Nat.not_lt_zero _)⟩
    case round =>
      rename_i u _ wr
      obtain ⟨j, hj, rfl, HO2, HG, HB, HALL⟩ := hrel
      by_cases hlt : j < vn
      · have hjl : j < L.length := by rw [HVN.out]; exact hlt
        obtain ⟨b, o, rfl, _⟩ := HV.out.at_row hjl
        obtain ⟨x, hx⟩ : ∃ x, x = L.getD j 0 := ⟨_, rfl⟩
        have HXD := Lib.hid hx
        have d0 := (HV.out.grown HG.out).at' hjl
        rw [← hx] at d0
        obtain ⟨c0, c1, c2⟩ := HB.out.three
        have hc1 := LandI.isCell_any wr W H x (.slice la ln lc) X (HX.out.grown HG.out)
        have HJL := Lib.hid hjl
        have HLN2 : Hid ((S.take j).length ≤ 1000000000) := by show _ ≤ _; rw [List.length_take]; omega
        clear hx hjl
        cases hc : isCell W H X x
        · rw [hc] at hc1
          have HC1 := Lib.hid hc1
          have HR : Hid (wayT W H X L = ⟨#[]⟩) := way_bad HJL.out (by rw [← HXD.out]; exact hc)
          clear hc hc1
          go_wp2_with fail
          refine HC1.out.mono ?_
          rintro e w3 ⟨rfl, hg⟩
          have HG3 := Lib.hid (grownN_trans HG1.out (grownN_trans HG.out hg))
          clear hg
          go_wp2
          go_ret
          exact ⟨ret_s HR.out.symm, HG3.out⟩
        · rw [hc] at hc1
          have HC1 := Lib.hid hc1
          have HCC := Lib.hid hc
          have HN : Hid (S.take (j + 1) = S.take j ++ [cellT W H X x]) := by show _ = _; rw [take_next (d := ⟨#[]⟩) (by rw [HML.out]; exact hlt), HAT.out j hlt, HXD.out]
          clear hc hc1
          go_wp2_with fail
          refine HC1.out.mono ?_
          rintro e w3 ⟨rfl, hg⟩
          have HG3 := Lib.hid (grownN_trans HG.out hg)
          have HB3 := Lib.hid (HB.out.grown hg)
          have HO3 := Lib.hid (HO2.out.grown hg)
          clear hg c0 c1 c2
          obtain ⟨c0, c1, c2⟩ := HB3.out.three
          go_wp2_with fail
          refine (Ctx.iCell_any w3 W H x (.slice la ln lc) X (HX.out.grown HG3.out) (pow_grown HT.out HG3.out)).mono ?_
          rintro e w5 ⟨rfl, hg⟩
          have HG5 := Lib.hid (grownN_trans HG3.out hg)
          have HB5 := Lib.hid (HB3.out.grown hg)
          have HO5 := Lib.hid (HO3.out.grown hg)
          clear hg c0 c1 c2
          go_wp2_with (at_builtin; go_loud (refine wpListG_append_one (e := encS) _ rfl _ _ 88 rfl (w.heap.size + 1) 9 i0 (.string ⟨#[]⟩) 16 Tryd.underlying88 hi hz0 hz1 hz2 rfl _ (S.take j) rfl HO5.out (cellT W H X x) #[.string (cellT W H X x)] rfl rfl trivial HLN2.out (by decide) HB5.out.lt ?_); intro v6 w6 hown6 hgrow6 hloc6; have HO6 := Lib.hid hown6; have HG6 := Lib.hid (grown_new HG5.out hgrow6 (fun c hc => by have := (HO5.out.lt c hc).1; have := HLT1.out; omega)); have HB6 := Lib.hid (HB5.out.kept hgrow6 (HO5.out.off (Nat.lt_succ_self _))); clear hown6 hgrow6 hloc6)
          go_roundw
          case rel => exact ⟨j + 1, by omega, by go_num, by rw [HN.out]; exact HO6, HG6, HB6, fun k hk => by
            rcases Nat.lt_or_ge k j with h | h
            · exact HALL.out k h
            · have : k = j := by omega
              subst this; rw [← HXD.out]; exact HCC.out⟩
          case measure => simp [intOf]; omega
      · have hju : vn = j := by omega
        subst hju
        have HS : Hid (S.take vn = S) := by show _ = _; rw [← HML.out, List.take_length]
        have HR : Hid (wayT W H X L = joinB ⟨#[45]⟩ S) := by show _ = _; rw [way_ok (by rw [HVN.out]; exact HNE.out) (by rw [HVN.out]; exact HALL.out), HSD.out]
        go_wp2_with fail
        refine (joined_any _ ⟨#[45]⟩ _ S (by have h := HO2.out.sees; rw [HS.out] at h; exact h) (by show 1 ≤ 100; omega) HSZ.out (by rw [HML.out]; exact hvn)).mono ?_
        rintro e w5 ⟨rfl, hg⟩
        have HG5 := Lib.hid (grownN_trans (grownN_trans HG1.out HG.out) hg)
        clear hg
        go_wp2
        go_ret
        exact ⟨ret_s HR.out.symm, HG5.out⟩

set_option maxHeartbeats 4000000 in
set_option maxRecDepth 100000 in
theorem sWay_any (w : World) (W H : Int) (lv v : Value) (X L : List Int) (hX : Sees .i64 w lv X) (hv : Sees .i64 w v L) (hn : L.length ≤ 2000000) :
    Calls Tryd.prog 21 #[.agg #[.int .i64 W, .int .i64 H, lv], v] w fun e w' => e = .returned (.string (wayT W H X L)) ∧ w.grownBy w' none := by
  obtain ⟨va, vn, vc, rfl, HVN⟩ := hv.shape
  obtain ⟨la, ln, lc, rfl, HLN⟩ := hX.shape
  have hvn : vn ≤ 2000000 := by rw [← HVN.out]; exact hn
  have hg1 := World.grownBy_alloc w (.cells #[.int .i64 W, .int .i64 H, .slice la ln lc] 27 (0, 0)) none
  have HX := Lib.hid (hX.grown hg1)
  have HV := Lib.hid (hv.grown hg1)
  have HG1 := Lib.hid hg1
  have HB0 := Lib.hid (box_new w #[.int .i64 W, .int .i64 H, .slice la ln lc] 27)
  obtain ⟨S, hS⟩ : ∃ S, S = L.map (cellT W H X) := ⟨_, rfl⟩
  have HSD : Hid (S = L.map (cellT W H X)) := hS
  have HZ : Hid (∀ j, (Txt.part ⟨#[45]⟩ S j).size ≤ 200 * j) := part_size (sep := ⟨#[45]⟩) (by show 1 ≤ 100; omega) (by rw [hS]; exact sizes W H X L)
  have HML : Hid (S.length = vn) := by show _ = _; rw [hS, List.length_map]; exact HVN.out
  have HAT : Hid (∀ j, j < vn → S.getD j ⟨#[]⟩ = cellT W H X (L.getD j 0)) := fun j hj => by rw [hS]; simp [HVN.out, hj]
  clear hg1 hX hv hn hS
  go_enter Tryd.func21, Tryd.ntmps21
  go_wp2
  generalize w.alloc (.cells #[.int .i64 W, .int .i64 H, .slice la ln lc] 27 (0, 0)) = W1 at *
  go_loopw [5, 6] (fun s i wr => ∃ j : Nat, ∃ t : ByteArray, j ≤ vn ∧ i = .int .i64 j ∧ s = .string t ∧ Hid (t = Txt.part ⟨#[45]⟩ S j) ∧ Hid (W1.grownBy wr none) ∧ Hid (∀ k, k < j → isCell W H X (L.getD k 0) = true)) (fun _ i _ => vn - (intOf i).toNat)
  case atStart => exact ⟨0, ⟨#[]⟩, Nat.zero_le _, rfl, rfl, rfl, World.grownBy.refl _ _, fun k hk => absurd hk (Nat.not_lt_zero _)⟩
  case round =>
    rename_i _ _ wr
    obtain ⟨j, t, hj, rfl, rfl, HTD, HG, HALL⟩ := hrel
    have hz : t.size ≤ 600000000 := by rw [HTD.out]; have := HZ.out j; omega
    have HZT := Lib.hid hz
    clear hz
    by_cases hlt : j < vn
    · have hjl : j < L.length := by rw [HVN.out]; exact hlt
      have hjv : (j : Int) < (vn : Int) := by omega
      have hj0 : (0 : Int) ≤ (j : Int) := by omega
      obtain ⟨b, o, rfl, _⟩ := HV.out.at_row hjl
      obtain ⟨x, hx⟩ : ∃ x, x = L.getD j 0 := ⟨_, rfl⟩
      have HXD := Lib.hid hx
      have HD : Hid (∀ W', W1.grownBy W' none → W'.cell? ⟨w.heap.size, 0, none⟩ = some (.int .i64 W) ∧ W'.cell? ⟨w.heap.size, 1, none⟩ = some (.int .i64 H) ∧ W'.cell? ⟨w.heap.size, 2, none⟩ = some (.slice la ln lc) ∧ W'.cell? ⟨b, o + j, none⟩ = some (.int .i64 x)) := fun W' hg => by
        have hb := HB0.out.grown hg
        have d0 := (HV.out.grown hg).at' hjl
        rw [← hx] at d0
        exact ⟨hb.cell 0, hb.cell 1, hb.cell 2, d0⟩
      obtain ⟨q, hq⟩ : ∃ q, q = cellT W H X x := ⟨_, rfl⟩
      have hqs : q.size ≤ 40 := by rw [hq]; exact cell_size W H X x
      have hc1 := fun W' hx' => LandS.sIsCell_any W' W H x (.slice la ln lc) X hx'
      have hcq := fun W' hx' => Ctx.sCell_any W' W H x (.slice la ln lc) X hx'
      rw [← hq] at hcq
      have HCQ := Lib.hid hcq
      have HJL := Lib.hid hjl
      have HQD : Hid (q = S.getD j ⟨#[]⟩) := by show _ = _; rw [HAT.out j hlt, hq, HXD.out]
      have HQS := Lib.hid hqs
      have HQ0 := Lib.hid (grownN_trans HG.out (grown_drew (World.grownBy.refl wr none)))
      clear hx hjl hq hcq hqs
      cases hc : isCell W H X x
      · rw [hc] at hc1
        have HC1 := Lib.hid hc1
        have HR : Hid (wayT W H X L = ⟨#[]⟩) := way_bad HJL.out (by rw [← HXD.out]; exact hc)
        clear hc hc1
        go_wp2_with fail
        go_region_held3 (fun w' => w'.cell? ⟨w.heap.size, 0, none⟩ = some (.int .i64 W) ∧ w'.cell? ⟨w.heap.size, 1, none⟩ = some (.int .i64 H) ∧ w'.cell? ⟨w.heap.size, 2, none⟩ = some (.slice la ln lc) ∧ w'.cell? ⟨b, o + j, none⟩ = some (.int .i64 x))
          (first | exact HD.out _ HQ0.out | exact HD.out _ HQ1.out)
          (first | (go_at_call 56; refine (HC1.out _ (HX.out.grown HQ0.out)).mono ?_; rintro e wA ⟨rfl, hgA⟩; have HQ1 := Lib.hid (grownN_trans HQ0.out hgA); clear hgA))
        go_wp2
        go_ret
        exact ⟨ret_s HR.out.symm, grownN_trans HG1.out HQ1.out⟩
      · rw [hc] at hc1
        have HC1 := Lib.hid hc1
        have HCC := Lib.hid hc
        clear hc hc1
        go_wp2_with fail
        go_region_held3 (fun w' => w'.cell? ⟨w.heap.size, 0, none⟩ = some (.int .i64 W) ∧ w'.cell? ⟨w.heap.size, 1, none⟩ = some (.int .i64 H) ∧ w'.cell? ⟨w.heap.size, 2, none⟩ = some (.slice la ln lc) ∧ w'.cell? ⟨b, o + j, none⟩ = some (.int .i64 x))
          (first | exact HD.out _ HQ0.out | exact HD.out _ HQ1.out)
          (first | (go_at_call 56; refine (HC1.out _ (HX.out.grown HQ0.out)).mono ?_; rintro e wA ⟨rfl, hgA⟩; have HQ1 := Lib.hid (grownN_trans HQ0.out hgA); clear hgA))
        clear HQ0
        have HQ2 := Lib.hid (grownN_trans HQ1.out (grown_drew (World.grownBy.refl _ none)))
        rcases Nat.eq_zero_or_pos j with rfl | h0
        · have HN : Hid (Txt.part ⟨#[45]⟩ S 1 = t ++ q) := by show _ = _; rw [HTD.out, HQD.out]; rfl
          have hs1 : ¬ (9223372036854775807 < t.size + q.size) := by have := HZT.out; have := HQS.out; omega
          rw [Nat.add_zero] at HD
          go_wp2_with fail
          go_region_held3 (fun w' => w'.cell? ⟨w.heap.size, 0, none⟩ = some (.int .i64 W) ∧ w'.cell? ⟨w.heap.size, 1, none⟩ = some (.int .i64 H) ∧ w'.cell? ⟨w.heap.size, 2, none⟩ = some (.slice la ln lc) ∧ w'.cell? ⟨b, o, none⟩ = some (.int .i64 x))
            (first | exact HD.out _ HQ2.out | exact HD.out _ HQ3.out)
            (first | (go_at_call 15; refine (HCQ.out _ (HX.out.grown HQ2.out)).mono ?_; rintro e wB ⟨rfl, hgB⟩; have HQ3 := Lib.hid (grownN_trans HQ2.out hgB); clear hgB))
          go_wp2
          go_roundw
          case rel => exact ⟨1, _, by omega, by go_num, rfl, HN.out.symm, HQ3, fun k hk => by
            have : k = 0 := by omega
            subst this; rw [← HXD.out]; exact HCC.out⟩
          case measure => simp [intOf]; omega
        · have HN : Hid (Txt.part ⟨#[45]⟩ S (j + 1) = t ++ ⟨#[45]⟩ ++ q) := by show _ = _; rw [part_next _ _ h0, HTD.out, HQD.out]
          have hs0 : ¬ (9223372036854775807 < t.size + 1) := by have := HZT.out; omega
          have hs1 : ¬ (9223372036854775807 < (t ++ ⟨#[45]⟩).size + q.size) := by rw [size_app, show (⟨#[45]⟩ : ByteArray).size = 1 from rfl]; have := HZT.out; have := HQS.out; omega
          have hs2 : ¬ (9223372036854775807 < t.size + 1 + q.size) := by have := HZT.out; have := HQS.out; omega
          go_wp2_with fail
          go_region_held3 (fun w' => w'.cell? ⟨w.heap.size, 0, none⟩ = some (.int .i64 W) ∧ w'.cell? ⟨w.heap.size, 1, none⟩ = some (.int .i64 H) ∧ w'.cell? ⟨w.heap.size, 2, none⟩ = some (.slice la ln lc) ∧ w'.cell? ⟨b, o + j, none⟩ = some (.int .i64 x))
            (first | exact HD.out _ HQ2.out | exact HD.out _ HQ3.out)
            (first | (go_at_call 15; refine (HCQ.out _ (HX.out.grown HQ2.out)).mono ?_; rintro e wB ⟨rfl, hgB⟩; have HQ3 := Lib.hid (grownN_trans HQ2.out hgB); clear hgB))
          go_wp2
          go_roundw
          case rel => exact ⟨j + 1, _, by omega, by go_num, rfl, HN.out.symm, HQ3, fun k hk => by
            rcases Nat.lt_or_ge k j with h | h
            · exact HALL.out k h
            · have : k = j := by omega
              subst this; rw [← HXD.out]; exact HCC.out⟩
          case measure => simp [intOf]; omega
    · have hju : vn = j := by omega
      subst hju
      by_cases h0 : vn = 0
      · have HR : Hid (wayT W H X L = ⟨#[45]⟩) := way_nil (by rw [HVN.out]; exact h0)
        subst h0
        go_wp2
        go_ret
        exact ⟨ret_s HR.out.symm, grownN_trans HG1.out HG.out⟩
      · have HR : Hid (wayT W H X L = t) := by show _ = _; rw [way_ok (by rw [HVN.out]; exact h0) (by rw [HVN.out]; exact HALL.out), ← HSD.out, HTD.out, ← HML.out]; rfl
        have hb0 : ((vn : Int) == 0) = false := by simpa using h0
        clear h0
        go_wp2
        go_ret
        exact ⟨ret_s HR.out.symm, grownN_trans HG1.out HG.out⟩
end Go.Proofs.YtoanhnklemlfmaaDoor.Wtx

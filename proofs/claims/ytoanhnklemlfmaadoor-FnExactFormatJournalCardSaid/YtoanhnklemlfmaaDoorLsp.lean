/- The journal's text, of the program and of its model. -/
import Derived.Test.YtoanhnklemlfmaaDoorLsm
namespace Go.Proofs.YtoanhnklemlfmaaDoor.Lsp
open Go.RowKit Kit Rw Rg Ld Txt Ctx Pen Lst Lsm

set_option maxHeartbeats 4000000 in
set_option maxRecDepth 100000 in
theorem sPages_any (w : World) (W H : Int) (lv v : Value) (X : List Int) (L : List I4) (hX : Sees .i64 w lv X) (hv : SeesG enc4 w v L) (hn : L.length ≤ 2000000) :
    Calls Tryd.prog 38 #[.agg #[.int .i64 W, .int .i64 H, lv], v] w fun e w' => e = .returned (.string (l39 (L.map (pagT W H X)))) ∧ w.grownBy w' none := by
  obtain ⟨i0, hi, hz0, hz1, hz2⟩ := info_parts info_s
  obtain ⟨va, vn, vc, rfl, HVN⟩ := hv.shape
  obtain ⟨la, ln, lc, rfl, HLN⟩ := hX.shape
  have hvn : vn ≤ 2000000 := by rw [← HVN.out]; exact hn
  have hg1 := World.grownBy_alloc w (.cells #[.int .i64 W, .int .i64 H, .slice la ln lc] 27 (0, 0)) none
  have HS1 : Hid ((w.alloc (.cells #[.int .i64 W, .int .i64 H, .slice la ln lc] 27 (0, 0))).heap.size = w.heap.size + 1) := World.size_alloc _ _
  have HX := Lib.hid (hX.grown hg1)
  have HV := Lib.hid (hv.grown hg1)
  have HG1 := Lib.hid hg1
  have HB0 := Lib.hid (box_new w #[.int .i64 W, .int .i64 H, .slice la ln lc] 27)
  have HO0 := Lib.hid (ownG_empty (e := encS) (E := 9) (w.alloc (.cells #[.int .i64 W, .int .i64 H, .slice la ln lc] 27 (0, 0))))
  have HG0 := Lib.hid (World.grownBy_alloc (w.alloc (.cells #[.int .i64 W, .int .i64 H, .slice la ln lc] 27 (0, 0))) (.cells #[] 9 (0, 0)) none)
  have HWF := Lib.hid hv.ok
  have HSZ0 : Hid (∀ x ∈ L.map (pagT W H X), x.size ≤ 100) := map_size (f := pagT W H X) (sizesP W H X HWF.out)
  have HML0 : Hid ((L.map (pagT W H X)).length = vn) := by show _ = _; rw [List.length_map]; exact HVN.out
  obtain ⟨S, hS⟩ : ∃ S, S = L.map (pagT W H X) := ⟨_, rfl⟩
  rw [← hS] at HSZ0 HML0 ⊢
  have HAT : Hid (∀ j, j < vn → S.getD j ⟨#[]⟩ = (pagT W H X) (L.getD j zI4)) := fun j hj => by rw [hS]; exact getD_map' (pagT W H X) L zI4 (by rw [HVN.out]; exact hj)
  clear hg1 hX hv hn hS
  go_enter Tryd.func38, Tryd.ntmps38
  go_wp2
  generalize w.alloc (.cells #[.int .i64 W, .int .i64 H, .slice la ln lc] 27 (0, 0)) = W1 at *
  generalize W1.alloc (.cells #[] 9 (0, 0)) = W2 at *
  rw [HS1.out] at HO0
  have HB : Hid (Box W1 w.heap.size #[.int .i64 W, .int .i64 H, .slice la ln lc] 27) := HB0
  clear HB0
  go_loopw [5, 6] (fun u i wr => ∃ j : Nat, j ≤ vn ∧ i = .int .i64 j ∧ Hid (OwnG encS 9 wr (w.heap.size + 1) u (S.take j)) ∧ Hid (W1.grownBy wr none)) (fun _ i _ => vn - (intOf i).toNat)
  case atStart => exact ⟨0, Nat.zero_le _, rfl, HO0, HG0⟩
  case round =>
    rename_i u _ wr
    obtain ⟨j, hj, rfl, HO, HG⟩ := hrel
    by_cases hlt : j < vn
    · have hjl : j < L.length := by rw [HVN.out]; exact hlt
      have hjv : (j : Int) < (vn : Int) := by omega
      have hj0 : (0 : Int) ≤ (j : Int) := by omega
      obtain ⟨b, o, rfl, _⟩ := HV.out.at_row hjl
      obtain ⟨x, hx⟩ : ∃ x, x = L.getD j zI4 := ⟨_, rfl⟩
      have HN : Hid (S.take (j + 1) = S.take j ++ [pagT W H X x]) := by show _ = _; rw [take_next (d := ⟨#[]⟩) (by rw [HML0.out]; exact hlt), HAT.out j hlt, hx]
      have hok := HWF.out x (by rw [hx]; exact getD_mem hjl)
      have HXB := Lib.hid (i64_of hok.1)
      have HXC := Lib.hid (i64_of hok.2.2.1)
      have hd := fun W' (hg : W1.grownBy W' none) => at4_in HV.out hg hjl hx.symm
      obtain ⟨x0, x1, x2, x3⟩ := x
      obtain ⟨q, hq⟩ : ∃ q, q = cellQ W H X x1 := ⟨_, rfl⟩
      obtain ⟨m, hm⟩ : ∃ m, m = num x0 := ⟨_, rfl⟩
      obtain ⟨k, hk⟩ : ∃ k, k = num x2 := ⟨_, rfl⟩
      have hqs : q.size ≤ 40 := by rw [hq]; exact q_size W H X x1
      have hms : m.size ≤ 25 := by rw [hm]; exact num_size HXB.out.1 HXB.out.2
      have hks : k.size ≤ 25 := by rw [hk]; exact num_size HXC.out.1 HXC.out.2
      have hcq := fun W' hx' => sQ_any W' W H x1 (.slice la ln lc) X hx'
      have hcm := fun W' => sNum_any W' x0 HXB.out
      have hck := fun W' => sNum_any W' x2 HXC.out
      unfold pagT at HN
      dsimp only at HN hd
      rw [← hq] at hcq
      rw [← hm] at hcm
      rw [← hk] at hck
      rw [← hq, ← hm, ← hk] at HN
      have HCQ := Lib.hid hcq
      have HCM := Lib.hid hcm
      have HCK := Lib.hid hck
      have HD : Hid (∀ W', W1.grownBy W' none → W'.cell? ⟨w.heap.size, 0, none⟩ = some (.int .i64 W) ∧ W'.cell? ⟨w.heap.size, 1, none⟩ = some (.int .i64 H) ∧ W'.cell? ⟨w.heap.size, 2, none⟩ = some (.slice la ln lc) ∧ W'.cell? ⟨b, o + j * 4, none⟩ = some (.int .i64 x0) ∧ W'.cell? ⟨b, o + j * 4 + 1, none⟩ = some (.int .i64 x1) ∧ W'.cell? ⟨b, o + j * 4 + 2, none⟩ = some (.int .i64 x2)) := fun W' hg => by
        have hb := HB.out.grown hg
        obtain ⟨d0, d1, d2, d3⟩ := hd W' hg
        exact ⟨hb.cell 0, hb.cell 1, hb.cell 2, d0, d1, d2⟩
      have hs0 : ¬ (9223372036854775807 < m.size + 1) := by omega
      have hs1 : ¬ (9223372036854775807 < (m ++ ⟨#[64]⟩).size + q.size) := by rw [size_app, one_size]; omega
      have hs2 : ¬ (9223372036854775807 < m.size + 1 + q.size) := by omega
      have hs3 : ¬ (9223372036854775807 < (m ++ ⟨#[64]⟩ ++ q).size + 1) := by rw [size_app, size_app, one_size]; omega
      have hs4 : ¬ (9223372036854775807 < m.size + 1 + q.size + 1) := by omega
      have hs5 : ¬ (9223372036854775807 < (m ++ ⟨#[64]⟩ ++ q ++ ⟨#[61]⟩).size + k.size) := by rw [size_app, size_app, size_app, one_size, one_size]; omega
      have hs6 : ¬ (9223372036854775807 < m.size + 1 + q.size + 1 + k.size) := by omega
      obtain ⟨T, hT⟩ : ∃ T, m ++ ⟨#[64]⟩ ++ q ++ ⟨#[61]⟩ ++ k = T := ⟨_, rfl⟩
      rw [hT] at HN
      clear hx hq hm hk hcq hcm hck hd hok hqs hms hks
      have HLN2 : Hid ((S.take j).length ≤ 1000000000) := by show _ ≤ _; rw [List.length_take]; omega
      have HQ0 := Lib.hid (grownN_trans HG.out (grown_drew (World.grownBy.refl wr none)))
      have HOD := Lib.hid (HO.out.grown (grown_drew (World.grownBy.refl wr none)))
      clear hjl
      go_wp2_with fail
      go_region_held_law (fun w' => w'.cell? ⟨w.heap.size, 0, none⟩ = some (.int .i64 W) ∧ w'.cell? ⟨w.heap.size, 1, none⟩ = some (.int .i64 H) ∧ w'.cell? ⟨w.heap.size, 2, none⟩ = some (.slice la ln lc) ∧ w'.cell? ⟨b, o + j * 4, none⟩ = some (.int .i64 x0) ∧ w'.cell? ⟨b, o + j * 4 + 1, none⟩ = some (.int .i64 x1) ∧ w'.cell? ⟨b, o + j * 4 + 2, none⟩ = some (.int .i64 x2)) (first | exact HD.out _ HQ0.out | exact HD.out _ HQ1.out | exact HD.out _ HQ2.out | exact HD.out _ HQ3.out | exact HD.out _ (grownN_trans HQ1.out (World.grownBy_alloc _ _ none)) | exact HD.out _ (grownN_trans HQ2.out (World.grownBy_alloc _ _ none)) | exact HD.out _ (grownN_trans HQ3.out (World.grownBy_alloc _ _ none)) | exact HD.out _ HQZ.out) (first
        | (go_at_call 57; have hzz := HQ2.out; clear hzz; refine (HCK.out _).mono ?_; rintro e wC ⟨rfl, hgC⟩; have HQ3 := Lib.hid (grownN_trans HQ2.out hgC); have HO3 := Lib.hid (HO2.out.grown hgC); clear hgC)
        | (go_at_call 57; refine (HCM.out _).mono ?_; rintro e wB ⟨rfl, hgB⟩; have HQ1 := Lib.hid (grownN_trans HQ0.out hgB); have HO1 := Lib.hid (HOD.out.grown hgB); clear hgB)
        | (go_at_call 78; refine (HCQ.out _ (HX.out.grown HQ1.out)).mono ?_; rintro e wA ⟨rfl, hgA⟩; have HQ2 := Lib.hid (grownN_trans HQ1.out hgA); have HO2 := Lib.hid (HO1.out.grown hgA); clear hgA)
        | (refine App.stepG_append (e := encS) _ (by rfl) _ _ 88 (by rfl) (w.heap.size + 1) 9 i0 (.string ⟨#[]⟩) 16 Tryd.underlying88 hi hz0 hz1 hz2 (by rfl) _ (S.take j) (by rfl) (HO3.out.grown (World.grownBy_alloc _ _ none)) _ [T] (by rfl) (seesG_one (e := encS) (E := 9) _ (T) #[.string (T)] rfl trivial) (by have := HLN2.out; unfold maxLen; simp; omega) (by have := HLN2.out; simp; omega) W1 (grownN_trans HQ3.out (World.grownBy_alloc _ _ none)) HS1.out ?_; intro v2 w2 ho2 hgr2 hw2; have HOZ := Lib.hid ho2; have HQZ := Lib.hid hw2; clear ho2 hgr2 hw2))
      all_goals
        go_wp2
        go_roundw
        case rel => exact ⟨j + 1, by omega, by go_num, by rw [HN.out]; exact HOZ, HQZ⟩
        case measure => simp [intOf]; omega
    · have hju : vn = j := by omega
      subst hju
      have HS : Hid (S.take vn = S) := by show _ = _; rw [← HML0.out, List.take_length]
      go_wp2_with fail
      refine (sJoin_any _ _ S (by have h := HO.out.sees; rw [HS.out] at h; exact h) HSZ0.out (by rw [HML0.out]; exact hvn)).mono ?_
      rintro e w5 ⟨rfl, hg⟩
      have HG5 := Lib.hid (grownN_trans (grownN_trans HG1.out HG.out) hg)
      clear hg
      go_wp2
      go_ret
      exact ⟨rfl, HG5.out⟩

set_option maxRecDepth 100000 in
theorem iPages_any (w : World) (W H : Int) (lv v : Value) (X : List Int) (L : List I4) (hX : Sees .i64 w lv X) (hv : SeesG enc4 w v L) (hn : L.length ≤ 2000000) (htab : Fmt.Pow10 w) :
    Calls Tryd.prog 40 #[.agg #[.int .i64 W, .int .i64 H, lv], v] w fun e w' => e = .returned (.string (l39 (L.map (pagT W H X)))) ∧ w.grownBy w' none := by
  have hgr := World.grownBy_alloc w (.cells #[.int .i64 W, .int .i64 H, lv] 27 (0, 0)) none
  have HG := Lib.hid hgr
  have HB := Lib.hid (box_new w #[.int .i64 W, .int .i64 H, lv] 27)
  obtain ⟨c0, c1, c2⟩ := HB.out.three
  have HC := Lib.hid (lPag_any _ W H lv v X L (hX.grown hgr) (hv.grown hgr) hn (pow_grown htab hgr))
  obtain ⟨la, ln, lc, rfl, HLN⟩ := hX.shape
  obtain ⟨va, vn, vc, rfl, HVN⟩ := hv.shape
  clear hgr hX hv hn htab
  go_enter Tryd.func40, Tryd.ntmps40
  go_wp2_with fail
  refine HC.out.mono ?_
  rintro e w2 ⟨rfl, hg⟩
  have HG2 := Lib.hid (grownN_trans HG.out hg)
  clear hg
  go_wp2
  go_ret
  exact ⟨rfl, HG2.out⟩
end Go.Proofs.YtoanhnklemlfmaaDoor.Lsp

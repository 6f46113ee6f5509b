/- Contract of where one is after some steps and sights: the model's. -/
import Derived.Test.YtdeggdhcleanmaaDoorPlaF
import Derived.Test.YtdeggdhcleanmaaDoorPsm
namespace Go.Proofs.YtdeggdhcleanmaaDoor.Pc
open Go.RowKit Kit Rw Ld Bfs Wf Cros

set_option maxRecDepth 20000 in
set_option maxHeartbeats 8000000 in
theorem sAfter_any (w : World) (W H s : Int) (v u m r : Value) (X F M R : List Int) (hv : Sees .i64 w v X) (hu : Sees .i64 w u F) (hm : Sees .i64 w m M) (hr : Sees .i64 w r R) (hn : X.length ≤ 1000000000) :
    Calls Tryd.prog 30 #[.agg #[.int .i64 W, .int .i64 H, v], u, .int .i64 s, m, r] w fun e w' => ∃ t, e = .returned t ∧ Own .i64 3 w' w.heap.size t (after W H X F s M R) ∧ w.grownBy w' none := by
  obtain ⟨va, vn, vc, rfl, HVN⟩ := hv.shape
  obtain ⟨ua, un, uc, rfl, HUN⟩ := hu.shape
  have hml := hm.len
  obtain ⟨ma, mn, mc, rfl, HMN⟩ := hm.shape
  obtain ⟨ra, rn, rc, rfl, HRN⟩ := hr.shape
  have HML : Hid (mn ≤ 9223372036854775807) := by show _ ≤ _; rw [← HMN.out]; exact hml
  have g1 := World.grownBy_alloc w (.cells #[.int .i64 W, .int .i64 H, .slice va vn vc] 37 (0, 0)) (none : Option Nat)
  have HG1 := Lib.hid g1
  have HB1 := Lib.hid (box_new w #[.int .i64 W, .int .i64 H, .slice va vn vc] 37)
  have HM := Lib.hid hm
  have HR := Lib.hid hr
  have HCB := Lib.hid (sCanBe_any (w.alloc (.cells #[.int .i64 W, .int .i64 H, .slice va vn vc] 37 (0, 0))) W H s (.slice va vn vc) (.slice ua un uc) X F (hv.grown g1) (hu.grown g1) hn)
  have HSE := Lib.hid fun w' a b (hg : w.grownBy w' none) => sSeen_any w' W H a b (.slice va vn vc) X (hv.grown hg) hn
  have HXL := Lib.hid hn
  have l0 := HB1.out.cell 0
  have l1 := HB1.out.cell 1
  have l2 := HB1.out.cell 2
  simp only [List.getElem?_toArray, List.getElem?_cons_succ, List.getElem?_cons_zero] at l0 l1 l2
  clear hv hu hm hr hn g1 hml
  go_enter Tryd.func30, Tryd.ntmps30
  go_wp2_with fail
  generalize w.alloc (.cells #[.int .i64 W, .int .i64 H, .slice va vn vc] 37 (0, 0)) = W1 at *
  refine HCB.out.mono ?_
  rintro e w3 ⟨t, rfl, ho, hg⟩
  have HO := Lib.hid (ho.lower HG1.out.size)
  have HGW := Lib.hid (grownN_trans HG1.out hg)
  have HB3 := Lib.hid (HB1.out.grown hg)
  clear hg ho l0 l1 l2
  by_cases hmr : mn = rn
  · subst hmr
    have HR9 : Hid (after W H X F s M R = afterTo W H X F s M R mn) := by show _ = _; unfold after; rw [if_pos (by rw [HMN.out, HRN.out]), HMN.out]
    have hbe : ((mn : Int) != (mn : Int)) = false := by simp
    go_wp2_with fail
    go_loopw [11, 12] (fun t i wr => ∃ j : Nat, j ≤ mn ∧ i = .int .i64 j ∧ Hid (Own .i64 3 wr w.heap.size t (afterTo W H X F s M R j)) ∧ Hid (w3.grownBy wr none)) (fun _ i _ => mn - (intOf i).toNat)
    case atStart => exact ⟨0, Nat.zero_le _, rfl, HO, World.grownBy.refl _ _⟩
    case round =>
      rename_i _ _ wr
      obtain ⟨tt, htt⟩ : ∃ tt, tt = u11 := ⟨_, rfl⟩
      obtain ⟨j, hj, rfl, HT, HG⟩ := hrel
      rw [← htt] at HT ⊢
      clear htt
      by_cases hlt : j < mn
      · have hml := HML.out
        have hjI : (j : Int) < (mn : Int) := by omega
        have hj0 : (0 : Int) ≤ (j : Int) := by omega
        obtain ⟨a, ha⟩ : ∃ a, a = M.getD j 0 := ⟨_, rfl⟩
        obtain ⟨b, hb⟩ : ∃ b, b = R.getD j 0 := ⟨_, rfl⟩
        obtain ⟨mb, mo, rfl, _⟩ := HM.out.at_row (j := j) (by rw [HMN.out]; exact hlt)
        obtain ⟨rb, ro, rfl, _⟩ := HR.out.at_row (j := j) (by rw [HRN.out]; exact hlt)
        have HC : Hid (∀ wy, w3.grownBy wy none → (wy.cell? ⟨w.heap.size, 0, none⟩ = some (.int .i64 W) ∧ wy.cell? ⟨w.heap.size, 1, none⟩ = some (.int .i64 H) ∧ wy.cell? ⟨w.heap.size, 2, none⟩ = some (.slice va vn vc)) ∧ wy.cell? ⟨mb, mo + j, none⟩ = some (.int .i64 a) ∧ wy.cell? ⟨rb, ro + j, none⟩ = some (.int .i64 b)) := fun wy hg => by
          refine ⟨⟨(HB3.out.grown hg).cell 0, (HB3.out.grown hg).cell 1, (HB3.out.grown hg).cell 2⟩, ?_, ?_⟩
          · rw [ha]; exact (HM.out.grown (grownN_trans HGW.out hg)).at' (by rw [HMN.out]; exact hlt)
          · rw [hb]; exact (HR.out.grown (grownN_trans HGW.out hg)).at' (by rw [HRN.out]; exact hlt)
        have HSJ := Lib.hid fun w' hg => HSE.out w' a b hg
        obtain ⟨A, hA⟩ : ∃ A, A = afterTo W H X F s M R j := ⟨_, rfl⟩
        obtain ⟨B, hB⟩ : ∃ B, B = seen W H X a b := ⟨_, rfl⟩
        have HNX : Hid (afterTo W H X F s M R (j + 1) = crossOf A B) := by show crossOf (afterTo W H X F s M R j) (seen W H X (M.getD j 0) (R.getD j 0)) = _; rw [hA, hB, ha, hb]
        have HAL : Hid (A.length ≤ 1000000000) := by show _ ≤ _; have h1 := afterTo_len W H X F s M R j; have h2 := HXL.out; rw [hA]; omega
        rw [← hA] at HT
        rw [← hB] at HSJ
        have HQ0 := Lib.hid (grownN_trans HG.out (grown_drew (World.grownBy.refl wr none)))
        obtain ⟨ta, tn, tc, rfl, HTN⟩ := HT.out.sees.shape
        clear ha hb hA hB
        go_wp2_with fail
        go_region_held3 (fun w' => (w'.cell? ⟨w.heap.size, 0, none⟩ = some (.int .i64 W) ∧ w'.cell? ⟨w.heap.size, 1, none⟩ = some (.int .i64 H) ∧ w'.cell? ⟨w.heap.size, 2, none⟩ = some (.slice va vn vc)) ∧ w'.cell? ⟨mb, mo + j, none⟩ = some (.int .i64 a) ∧ w'.cell? ⟨rb, ro + j, none⟩ = some (.int .i64 b)) (first | exact HC.out _ HQ0.out | exact HC.out _ HQ1.out | exact HC.out _ HQ2.out) (first | (go_at_call 28; refine (HSJ.out _ (grownN_trans HGW.out HQ0.out)).mono ?_; rintro e w5 ⟨t5, rfl, ho5, hg5⟩; have HO5 := Lib.hid ho5; have HQ1 := Lib.hid (grownN_trans HQ0.out hg5); have HT5 := Lib.hid (HT.out.sees.grown (grownN_trans (grown_drew (World.grownBy.refl wr none)) hg5)); clear ho5 hg5) | (go_at_call 63; refine (Cros.sCross_any _ _ _ A B HT5.out HO5.out.sees HAL.out).mono ?_; rintro e w6 ⟨t6, rfl, ho6, hg6⟩; have HO6 := Lib.hid (ho6.lower (grownN_trans HGW.out HQ1.out).size); have HQ2 := Lib.hid (grownN_trans HQ1.out hg6); clear ho6 hg6))
        all_goals
          go_wp2_with fail
          go_roundw
          case rel => exact ⟨j + 1, by omega, by go_num, by rw [HNX.out]; exact HO6, HQ2⟩
          case measure => simp [intOf]; omega
      · have hju : mn = j := by omega
        subst hju
        go_wp2
        go_ret
        exact ⟨_, rfl, by rw [HR9.out]; exact HT.out, grownN_trans HGW.out HG.out⟩
  · have HR9 : Hid (after W H X F s M R = []) := by show _ = _; unfold after; rw [if_neg (by rw [HMN.out, HRN.out]; exact hmr)]
    have hbe : ((mn : Int) != (rn : Int)) = true := by simp; omega
    go_wp2
    go_ret
    have ho := own_empty (k := .i64) (E := 3) w3
    exact ⟨_, rfl, by rw [HR9.out]; exact ho.lower HGW.out.size, grownN_trans HGW.out (World.grownBy_alloc _ _ _)⟩
end Go.Proofs.YtdeggdhcleanmaaDoor.Pc

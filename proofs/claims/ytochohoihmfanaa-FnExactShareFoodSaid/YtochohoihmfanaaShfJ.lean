/- How food is shared: the program's contract. -/
import Derived.Test.YtochohoihmfanaaShfI
import Derived.Test.YtochohoihmfanaaShfS
namespace Go.Proofs.Ytochohoihmfanaa.Shf
open Go.RowKit Kit Rw Rg Crw App

set_option maxRecDepth 20000 in
set_option maxHeartbeats 4000000 in
theorem iFood_any (w : World) (v : Value) (L : List Mem) (n : Int) (hv : SeesG encM w v L) :
    Calls Try.prog 17 #[v, .int .i64 n] w fun e w' => ∃ u, e = .returned u ∧ Rw.Own .i64 3 w' w.heap.size u (food L n) ∧ w.grownBy w' none := by
  have hmf : ∀ (fn : Fn) (first cap : Array Value) (w : World), (Instr.makeFunc fn first cap).run Try.prog w = .ok (.func fn first cap) w := fun _ _ _ _ => rfl
  obtain ⟨va, vn, vc, rfl, HVN⟩ := hv.shape
  have HV := Lib.hid hv
  have g0 := World.grownBy_alloc w (.cells #[.int .i64 n] 3 (0, 0)) (none : Option Nat)
  have hb0 := box_new w #[.int .i64 n] 3
  have g1 := World.grownBy_alloc (w.alloc (.cells #[.int .i64 n] 3 (0, 0))) (.cells #[] 3 (0, 0)) (none : Option Nat)
  have ho0 : OwnG encI 3 ((w.alloc (.cells #[.int .i64 n] 3 (0, 0))).alloc (.cells #[] 3 (0, 0))) (w.alloc (.cells #[.int .i64 n] 3 (0, 0))).heap.size (.slice (some ⟨(w.alloc (.cells #[.int .i64 n] 3 (0, 0))).heap.size, 0, none⟩) 0 0) [] := ownG_empty _
  simp only [World.size_alloc] at ho0
  have HO0 : Hid (OwnG encI 3 ((w.alloc (.cells #[.int .i64 n] 3 (0, 0))).alloc (.cells #[] 3 (0, 0))) w.heap.size (.slice (some ⟨w.heap.size + 1, 0, none⟩) 0 0) []) := ho0.lower (Nat.le_succ _)
  have HB0 := Lib.hid (hb0.grown g1)
  have HG0 := Lib.hid (grownN_trans g0 g1)
  obtain ⟨i0, hi, hz0, hz1, hz2⟩ := info_parts info_int
  have e0 := HB0.out.cell 0
  clear hv g0 g1 hb0 ho0
  cases hc : areCrew L
  · have HR : Hid (food L n = []) := food_no (fun h => by rw [h.1] at hc; cases hc)
    have HCR := Lib.hid (show ∀ w' hv, _ from fun w' hv => CrI.iAreCrew_any w' (.slice va vn vc) L hv)
    rw [hc] at HCR
    clear hc
    go_enter Try.func17, Try.ntmps17
    go_wp2_with fail
    generalize (w.alloc (.cells #[.int .i64 n] 3 (0, 0))).alloc (.cells #[] 3 (0, 0)) = W0 at *
    refine (HCR.out _ (HV.out.grown HG0.out)).mono ?_
    rintro e w2 ⟨rfl, hg⟩
    have HG2 := Lib.hid (grownN_trans HG0.out hg)
    have HO2 := Lib.hid (HO0.out.grown hg)
    clear hg
    go_wp2
    go_ret
    exact ⟨_, rfl, by rw [HR.out]; exact ownI HO2.out, HG2.out⟩
  · have HC := Lib.hid hc
    have HCR := Lib.hid (show ∀ w' hv, _ from fun w' hv => CrI.iAreCrew_any w' (.slice va vn vc) L hv)
    rw [hc] at HCR
    clear hc
    by_cases hn : 0 ≤ n ∧ n ≤ 10000
    · have HR : Hid (food L n = lst L n (lefT L n L.length).toNat L.length) := food_yes ⟨HC.out, hn⟩
      have HN := Lib.hid hn
      have hl8 := crew_len HC.out
      have hvn : vn ≤ 8 := by rw [← HVN.out]; exact hl8.2
      clear hl8
      go_enter Try.func17, Try.ntmps17
      go_wp2_with fail
      generalize (w.alloc (.cells #[.int .i64 n] 3 (0, 0))).alloc (.cells #[] 3 (0, 0)) = W0 at *
      refine (HCR.out _ (HV.out.grown HG0.out)).mono ?_
      rintro e w2 ⟨rfl, hg⟩
      have HG2 := Lib.hid (grownN_trans HG0.out hg)
      have HO2 := Lib.hid (HO0.out.grown hg)
      have HB2 := Lib.hid (HB0.out.grown hg)
      have e2 := HB2.out.cell 0
      clear hg e0
      go_wp2_with fail
      refine (LandI.inRange_yes _ HN.out).mono ?_
      rintro e w4 ⟨rfl, rfl⟩
      go_wp2_with fail
      refine (CrI.iNeedOf_any _ _ L (HV.out.grown HG2.out)).mono ?_
      rintro e w3 ⟨rfl, hg⟩
      obtain ⟨N, hN⟩ : ∃ N, N = needOf L := ⟨_, rfl⟩
      rw [← hN]
      have HNE := Lib.hid hN
      have ga := World.grownBy_alloc w3 (.cells #[.int .i64 N] 3 (0, 0)) (none : Option Nat)
      have HNB : Hid (Box (w3.alloc (.cells #[.int .i64 N] 3 (0, 0))) w3.heap.size #[.int .i64 N] 3) := box_new w3 #[.int .i64 N] 3
      have HG3 := Lib.hid (grownN_trans (grownN_trans HG2.out hg) ga)
      have HO3 := Lib.hid (HO2.out.grown (grownN_trans hg ga))
      have HB3 := Lib.hid (HB2.out.grown (grownN_trans hg ga))
      have HPT := Lib.hid (portions_any _ va vn vc w.heap.size w3.heap.size L n (HV.out.grown HG3.out) HB3.out (by rw [← HNE.out]; exact HNB.out) HC.out HN.out)
      clear hg ga hN e2
      go_wp2_with fail
      generalize w3.alloc (.cells #[.int .i64 N] 3 (0, 0)) = W4 at *
      refine HPT.out.mono ?_
      rintro e w5 ⟨u, rfl, ho, hg⟩
      have HP5 := Lib.hid ho.sees
      have HPL : Hid (∀ c, u.ownBlock = some c → W4.heap.size ≤ c) := fun c h => (ho.lt c h).1
      have HSL : Hid (w.heap.size + 1 < W4.heap.size) := (HO3.out.lt _ rfl).2
      have HG5 := Lib.hid (grownN_trans HG3.out hg)
      have HO5 := Lib.hid (HO3.out.grown hg)
      have HNB5 := Lib.hid (HNB.out.grown hg)
      clear ho hg
      have HSM := Lib.hid (fun W (hg : w5.grownBy W none) => sum_any W u L n L.length rfl (HP5.out.grown hg) HC.out HN.out)
      have HGD := Lib.hid (grown_drew (World.grownBy.refl w5 none))
      have hlb := left_bd HC.out HN.out
      have hnp := needOf_pos HC.out
      have hrb := rm_bd HC.out HN.out L.length (Nat.le_refl _)
      have hdv : (rmT L n L.length).tdiv (needOf L) = lefT L n L.length := by rw [Int.tdiv_eq_ediv_of_nonneg hrb.1]; exact left_div HC.out
      rw [← HNE.out] at hnp hdv
      have hN0 : (N == 0) = false := by simp; omega
      have hN1 : ¬ N = 0 := by omega
      have HEE := Lib.hid hdv
      obtain ⟨R, hRR⟩ : ∃ R, R = rmT L n L.length := ⟨_, rfl⟩
      rw [← hRR] at HSM hdv
      have hpl := prs_len L n L.length
      obtain ⟨ua, un, uc, rfl, HUN⟩ := HP5.out.shape
      have hun : L.length = un := by rw [← hpl]; exact HUN.out
      have hu8 : un ≤ 8 := by rw [← hun, HVN.out]; exact hvn
      rw [hun] at hlb hdv HP5
      obtain ⟨m, hm⟩ : ∃ m : Nat, lefT L n un = m := ⟨(lefT L n un).toNat, by omega⟩
      rw [hm] at hlb hdv
      have HRX : Hid (food L n = lst L n m un) := by show _ = _; rw [HR.out, hun, hm, Int.toNat_natCast]
      have hmw : IntKind.i64.wrap (m : Int) = (m : Int) := IntWalk.i64_in _ (by omega)
      have HUL := Lib.hid hun
      have HML : Hid (m < un) := by show m < un; omega
      have HU8 := Lib.hid hu8
      clear hlb hnp hrb hRR hpl hun hm hu8 hmf
      go_wp2_with fail
      refine wp_region_held_drew (S := fun w' => w'.cell? ⟨w3.heap.size, 0, none⟩ = some (.int .i64 N)) (by kernel_rfl) ((HNB5.out.grown HGD.out).cell 0) (fun hHeld => ?_)
      refine wpAnyH_take (i := 0) (v := ?_) rfl (by kernel_rfl) (by kernel_rfl) (by kernel_rfl) (fun _ _ _ h => h) (Or.inl ⟨by rfl, ?_⟩) (by assumption) ?_; rotate_left; (focus (intro wS hSw; (try dsimp only at hSw); go_simp <;> with_reducible rfl)); (try simp only [Act.put, List.getElem_toArray, List.getElem_cons_succ, List.getElem_cons_zero, List.setIfInBounds_toArray, List.set_cons_zero, List.set_cons_succ])
      refine wpAnyH_take (i := 2) (v := ?_) rfl (by kernel_rfl) (by kernel_rfl) (by kernel_rfl) (fun _ _ _ h => h) (Or.inl ⟨by rfl, ?_⟩) (by assumption) ?_; rotate_left; (focus (intro wS hSw; (try dsimp only at hSw); go_simp <;> with_reducible rfl)); (try simp only [Act.put, List.getElem_toArray, List.getElem_cons_succ, List.getElem_cons_zero, List.setIfInBounds_toArray, List.set_cons_zero, List.set_cons_succ])
      refine wpAnyH_ready (rs := [1]) (by kernel_rfl) (by simp) ?_; refine AllReadyH.cons rfl (fun K hK => ?_) AllReadyH.nil; go_simp; (go_at_call 63; refine (HSM.out _ HGD.out).mono ?_; rintro e w6 ⟨rfl, hg6⟩; have HG6 := Lib.hid (grownN_trans HGD.out hg6); clear hg6)
      refine hK.out _ _ ?_ (fun hHeld => ?_)
      · exact (HNB5.out.grown HG6.out).cell 0
      clear hK K
      (try simp only [Act.put, List.getElem_toArray, List.getElem_cons_succ, List.getElem_cons_zero, List.setIfInBounds_toArray, List.set_cons_zero, List.set_cons_succ])
      refine wpAnyH_take (i := 3) (v := ?_) rfl (by kernel_rfl) (by kernel_rfl) (by kernel_rfl) (fun _ _ _ h => h) (Or.inl ⟨by rfl, ?_⟩) (by assumption) ?_; rotate_left; (focus (intro wS hSw; (try dsimp only at hSw); go_simp <;> with_reducible rfl)); (try simp only [Act.put, List.getElem_toArray, List.getElem_cons_succ, List.getElem_cons_zero, List.setIfInBounds_toArray, List.set_cons_zero, List.set_cons_succ])
      refine wpAnyH_take (i := 4) (v := ?_) rfl (by kernel_rfl) (by kernel_rfl) (by kernel_rfl) (fun _ _ _ h => h) (Or.inl ⟨by rfl, ?_⟩) (by assumption) ?_; rotate_left; (focus (intro wS hSw; (try dsimp only at hSw); go_simp <;> with_reducible rfl)); (try simp only [Act.put, List.getElem_toArray, List.getElem_cons_succ, List.getElem_cons_zero, List.setIfInBounds_toArray, List.set_cons_zero, List.set_cons_succ])
      refine wpAnyH_done (by kernel_rfl) ?_ _
      (try simp only [Act.put, List.getElem_toArray, List.getElem_cons_succ, List.getElem_cons_zero, List.setIfInBounds_toArray, List.set_cons_zero, List.set_cons_succ])
      have HGX := Lib.hid (grownN_trans HG5.out HG6.out)
      have HO6 : Hid (OwnG encI 3 w6 w.heap.size (.slice (some ⟨w.heap.size + 1, 0, none⟩) 0 0) (lst L n m 0)) := HO5.out.grown HG6.out
      have HP6 := Lib.hid (HP5.out.grown HG6.out)
      go_wp2
      have hun0 : 0 < un := by have := HML.out; omega
      obtain ⟨b, o, rfl, hbw, _⟩ := HP6.out.at_row (show 0 < (prs L n un).length by rw [prs_len]; exact hun0)
      have HBW := Lib.hid hbw
      have HNE0 : Hid ((Value.slice (some ⟨w.heap.size + 1, 0, none⟩) 0 0).ownBlock ≠ some b) := fun e => by
        have e2 : w.heap.size + 1 = b := Option.some.inj e
        have h1 := HPL.out b rfl
        have h2 := HSL.out
        omega
      clear hbw
      go_loopw [5, 32] (fun s i wr => ∃ j : Nat, j ≤ un ∧ i = .int .i64 j ∧ Hid (OwnG encI 3 wr w.heap.size s (lst L n m j)) ∧ Hid (s.ownBlock ≠ some b) ∧ Hid (w.grownBy wr none) ∧ Hid (SeesG encP wr (.slice (some ⟨b, o, none⟩) un uc) (prs L n un)) ∧ Hid (b < wr.heap.size)) (fun _ i _ => un - (intOf i).toNat)
      case atStart => exact ⟨0, Nat.zero_le _, rfl, HO6, HNE0, HGX, HP6, HBW⟩
      case round =>
        rename_i _ wr
        obtain ⟨j, hj, rfl, HOr, HNr, HGr, HPr, HBr⟩ := hrel
        by_cases hlt : j < un
        · have hjp : j < (prs L n un).length := by rw [prs_len]; exact hlt
          have hjl : j < L.length := by rw [HUL.out]; exact hlt
          have hsb := sh_bd HC.out HN.out hjl
          obtain ⟨d0, d1⟩ := atP_in HPr.out (World.grownBy.refl wr none) hjp (prs_at L n hlt)
          dsimp only at d0 d1
          obtain ⟨a, ha⟩ : ∃ a, a = shJ L n j := ⟨_, rfl⟩
          obtain ⟨r, hr⟩ : ∃ r, r = rmJ L n j := ⟨_, rfl⟩
          have HNX : Hid (lst L n m (j + 1) = lst L n m j ++ [if j < m then a + 1 else a]) := by show _ = _; rw [lst_next, ha]
          rw [← ha] at d0 hsb
          rw [← hr] at d1
          have HLL := Lib.hid (lst_len L n m j)
          have HU9 : Hid (j < 8) := by show j < 8; have := HU8.out; omega
          have hj8 : j < 8 := HU9.out
          have hu8v : un ≤ 8 := HU8.out
          clear ha hr hjp hjl
          by_cases hjm : j < m
          · rw [if_pos hjm] at HNX
            have hjI : (j : Int) < (m : Int) := by omega
            have hw : IntKind.i64.wrap (a + 1) = a + 1 := IntWalk.i64_in _ (by omega)
            have HW := Lib.hid (i64_mk (n := a + 1) (by omega))
            clear hsb
            have HGA := Lib.hid (World.grownBy_alloc wr (.cells #[.int .i64 (a + 1), .int .i64 r] 83 (0, 0)) none)
            have hq := box_new wr #[.int .i64 (a + 1), .int .i64 r] 83
            have q0 := hq.cell 0
            have HOA := Lib.hid (HOr.out.grown HGA.out)
            have HGW := Lib.hid (grownN_trans HGr.out HGA.out)
            have HPA := Lib.hid (HPr.out.grown HGA.out)
            have HBA : Hid (b < (wr.alloc (.cells #[.int .i64 (a + 1), .int .i64 r] 83 (0, 0))).heap.size) := Nat.lt_of_lt_of_le HBr.out HGA.out.size
            clear hq
            go_wp2_with (at_builtin; go_loud (refine wpListG_append_one (e := encI) _ rfl _ _ 24 rfl w.heap.size 3 i0 (.int .i64 0) 8 Try.underlying24 hi hz0 hz1 hz2 rfl _ (lst L n m j) rfl HOA.out (a + 1) #[.int .i64 (a + 1)] rfl (by rw [World.size_alloc]; rfl) HW.out (by rw [HLL.out]; have := HU9.out; omega) (by decide) HGW.out.size ?_); intro v4 w4 hown hgrow hloc; have HO4 := Lib.hid hown; have HG4 := Lib.hid (grown_new HGW.out hgrow (fun c hc => (HOA.out.lt c hc).1)); have HP4 := Lib.hid (HPA.out.kept hgrow (.inr (fun e => HNr.out e.symm))); have HB4 : Hid (b < w4.heap.size) := Nat.lt_of_lt_of_le HBA.out hgrow.size; have HN4 : Hid (v4.ownBlock ≠ some b) := (fun e => by rcases hloc with h | ⟨g, h, h2⟩; exact HNr.out (h.symm.trans e); (rw [h] at e; have e2 := Option.some.inj e; have := HBA.out; omega)); clear hown hgrow hloc)
            go_roundw
            case rel => exact ⟨j + 1, by omega, by go_num, by rw [HNX.out]; exact HO4, HN4, HG4, HP4, HB4⟩
            case measure => simp [intOf]; omega
          · rw [if_neg hjm] at HNX
            have hjI : ¬ ((j : Int) < (m : Int)) := by omega
            have HW := Lib.hid (i64_mk (n := a) (by omega))
            clear hsb
            have HGA := Lib.hid (World.grownBy_alloc wr (.cells #[.int .i64 a, .int .i64 r] 83 (0, 0)) none)
            have hq := box_new wr #[.int .i64 a, .int .i64 r] 83
            have q0 := hq.cell 0
            have HOA := Lib.hid (HOr.out.grown HGA.out)
            have HGW := Lib.hid (grownN_trans HGr.out HGA.out)
            have HPA := Lib.hid (HPr.out.grown HGA.out)
            have HBA : Hid (b < (wr.alloc (.cells #[.int .i64 a, .int .i64 r] 83 (0, 0))).heap.size) := Nat.lt_of_lt_of_le HBr.out HGA.out.size
            clear hq
            go_wp2_with (at_builtin; go_loud (refine wpListG_append_one (e := encI) _ rfl _ _ 24 rfl w.heap.size 3 i0 (.int .i64 0) 8 Try.underlying24 hi hz0 hz1 hz2 rfl _ (lst L n m j) rfl HOA.out a #[.int .i64 a] rfl (by rw [World.size_alloc]; rfl) HW.out (by rw [HLL.out]; have := HU9.out; omega) (by decide) HGW.out.size ?_); intro v4 w4 hown hgrow hloc; have HO4 := Lib.hid hown; have HG4 := Lib.hid (grown_new HGW.out hgrow (fun c hc => (HOA.out.lt c hc).1)); have HP4 := Lib.hid (HPA.out.kept hgrow (.inr (fun e => HNr.out e.symm))); have HB4 : Hid (b < w4.heap.size) := Nat.lt_of_lt_of_le HBA.out hgrow.size; have HN4 : Hid (v4.ownBlock ≠ some b) := (fun e => by rcases hloc with h | ⟨g, h, h2⟩; exact HNr.out (h.symm.trans e); (rw [h] at e; have e2 := Option.some.inj e; have := HBA.out; omega)); clear hown hgrow hloc)
            go_roundw
            case rel => exact ⟨j + 1, by omega, by go_num, by rw [HNX.out]; exact HO4, HN4, HG4, HP4, HB4⟩
            case measure => simp [intOf]; omega
        · have hju : un = j := by omega
          subst hju
          go_wp2
          go_ret
          exact ⟨_, rfl, by rw [HRX.out]; exact ownI HOr.out, HGr.out⟩
    · have HR : Hid (food L n = []) := food_no (fun h => hn h.2)
      have HN := Lib.hid hn
      clear hn
      go_enter Try.func17, Try.ntmps17
      go_wp2_with fail
      generalize (w.alloc (.cells #[.int .i64 n] 3 (0, 0))).alloc (.cells #[] 3 (0, 0)) = W0 at *
      refine (HCR.out _ (HV.out.grown HG0.out)).mono ?_
      rintro e w2 ⟨rfl, hg⟩
      have HG2 := Lib.hid (grownN_trans HG0.out hg)
      have HO2 := Lib.hid (HO0.out.grown hg)
      have e2 := (HB0.out.grown hg).cell 0
      clear hg e0
      go_wp2_with fail
      refine (LandI.inRange_no _ HN.out).mono ?_
      rintro e w4 ⟨rfl, rfl⟩
      go_wp2
      go_ret
      exact ⟨_, rfl, by rw [HR.out]; exact ownI HO2.out, HG2.out⟩
end Go.Proofs.Ytochohoihmfanaa.Shf

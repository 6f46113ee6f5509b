/- Contracts of LongestStorm of the program and of its model. -/
import Derived.Test.YtikdnfhekannfaaHomF
import Derived.Test.YtikdnfhekannfaaStW
import Derived.Test.YtikdnfhekannfaaRuleL
import Derived.Test.YtikdnfhekannfaaRowE
namespace Go.Proofs.Ytikdnfhekannfaa.Lgs
open Go.RowKit Kit Rw Rg Stm StormS StI Hom

theorem info_boolL : (Try.prog.info? 4).map (fun i => (i.zero, i.size, i.bytes)) = some (some (.bool false), 1, 1) := by kernel_rfl
def longest (m n : Nat) (L : List Bool) : Nat := (signs m n L 1).length - 1
theorem longest_calm {m n : Nat} {L : List Bool} (hm : m < n) (hn : n ≤ 10) (h : may m n L = false) : longest m n L = 0 := by
  unfold longest
  rw [signs_calm hm hn (by omega) h, signs_zero]; rfl
theorem longest_storm {m n : Nat} {L : List Bool} (hm : m < n) (hn : n ≤ 10) (h : may m n L = true) : longest m n L = longest m n (L ++ [true]) + 1 := by
  unfold longest
  rw [signs_storm hm hn (by omega) h]
  have := signs_next (L := L ++ [true]) hm hn (k := 1) (by omega)
  rw [this]; simp
theorem longest_bd (m n : Nat) (L : List Bool) : longest m n L ≤ 30 := by
  have := signs_len m n L 1
  unfold longest; omega
def longestOf (m n : Int) (L : List Bool) : Int := if isRule m n = true then (longest m.toNat n.toNat L : Int) else 0
def slen : Value → Nat
  | .slice _ n _ => n
  | _ => 0
theorem may_dec {m n : Nat} (L : List Bool) : decide ((lastN (n - 1) L : Int) < (m : Int)) = may m n L := by
  unfold may
  by_cases h : lastN (n - 1) L < m
  · rw [decide_eq_true h, decide_eq_true (by omega)]
  · rw [decide_eq_false h, decide_eq_false (by omega)]
set_option maxHeartbeats 1000000 in
/-- The closure, and what it leaves as it was. -/
theorem clos_two (w : World) (base b g cap p : Nat) (m : Int) (n : Nat) (L : List Bool) (hW : Wy w base b g cap m n L) (hp : Box w p #[.pointer (some ⟨b, 0, none⟩)] 164) (hpb : p ≠ b) (hpg : p ≠ g) :
    Calls Try.prog 156 #[.pointer (some ⟨p, 0, none⟩)] w fun e w' => e = .returned (.bool (decide ((lastN (n - 1) L : Int) < m))) ∧
      Wy w' base b g cap m n (L ++ [decide ((lastN (n - 1) L : Int) < m)]) ∧ Box w' p #[.pointer (some ⟨b, 0, none⟩)] 164 ∧ Below base w w' ∧ ∀ k, k < w.heap.size → k ≠ b → k ≠ g → w'.heap[k]? = w.heap[k]? := by
  have HW := Lib.hid hW
  have HP := Lib.hid hp
  have c0 := hp.cell 0
  have hbs : base ≤ w.heap.size := by obtain ⟨D, t, h1, h2, _⟩ := hW; have := h2.lt g rfl; omega
  have hsz := hp.lt
  obtain ⟨s, hs⟩ : ∃ s, s = decide ((lastN (n - 1) L : Int) < m) := ⟨_, rfl⟩
  have ha := may_any w base b m n L hW.any
  rw [← hs] at ha ⊢
  have HA := Lib.hid ha
  clear ha hs hW hp
  go_enter Try.func156, Try.ntmps156
  go_wp2_with fail
  refine HA.out.mono ?_
  rintro e w1 ⟨rfl, hg⟩
  have HW1 := Lib.hid (HW.out.grown hg)
  have HP1 := Lib.hid (HP.out.grown hg)
  have HB1 := Lib.hid (grown_below hg base hbs)
  have HK1 : Hid (∀ k, k < w.heap.size → w1.heap[k]? = w.heap[k]?) := fun k hk => hg.block k hk (fun e => by cases e)
  have HS1 := Lib.hid hg.size
  have c1 := HP1.out.cell 0
  have hsz1 := HP1.out.lt
  clear hg c0
  go_wp2_with fail
  refine (pass_one _ base b g cap m n L s HW1.out).mono ?_
  rintro e w2 ⟨rfl, hw, hb, hk⟩
  have HW2 := Lib.hid hw
  have HB2 := Lib.hid hb
  have HP2 : Hid (Box w2 p #[.pointer (some ⟨b, 0, none⟩)] 164) := (hk p hsz1 hpb hpg).trans HP1.out
  have HK2 : Hid (∀ k, k < w.heap.size → k ≠ b → k ≠ g → w2.heap[k]? = w.heap[k]?) := fun k h1 h2 h3 => (hk k (Nat.lt_of_lt_of_le h1 HS1.out) h2 h3).trans (HK1.out k h1)
  clear hw hb hk c1
  go_wp2
  go_ret
  exact ⟨rfl, HW2.out, HP2.out, HB1.out.trans HB2.out, HK2.out⟩

set_option maxRecDepth 20000 in
set_option maxHeartbeats 1000000 in
theorem iLong_any (w : World) (m n : Int) (hm : (Lit.int .i64 m).wf = true) (hn : (Lit.int .i64 n).wf = true) (v : Value) (P : List Bool) (hv : SeesG encB w v P) :
    Calls Try.prog 48 #[.agg #[.int .i64 m, .int .i64 n], v] w fun e w' => e = .returned (.int .i64 (longestOf m n P)) ∧ w.grownBy w' none := by
  have hgr := World.grownBy_alloc w (.cells #[.int .i64 m, .int .i64 n] 57 (0, 0)) none
  have HV := Lib.hid (hv.grown hgr)
  have HG0 := Lib.hid hgr
  have HB := Lib.hid (box_new w #[.int .i64 m, .int .i64 n] 57)
  obtain ⟨c0, c1⟩ := StormS.two (box_new w #[.int .i64 m, .int .i64 n] 57)
  have HM := Lib.hid hm
  have HN := Lib.hid hn
  clear hgr hv hm hn
  go_enter Try.func48, Try.ntmps48
  go_wp2_with fail
  generalize w.alloc (.cells #[.int .i64 m, .int .i64 n] 57 (0, 0)) = w0 at *
  refine (iIsRule_any _ m n HM.out HN.out).mono ?_
  rintro e w1 ⟨rfl, hg⟩
  have HG1 := Lib.hid (grownN_trans HG0.out hg)
  have HV1 := Lib.hid (HV.out.grown hg)
  have HB1 := Lib.hid (HB.out.grown hg)
  clear hg c0 c1
  obtain ⟨c0, c1⟩ := StormS.two HB1.out
  cases hr : isRule m n
  · have HR : Hid (longestOf m n P = 0) := by show _ = _; unfold longestOf; rw [hr]; rfl
    clear hr
    go_wp2
    go_ret
    exact ⟨ret_i64 HR.out.symm, HG1.out⟩
  · obtain ⟨M, N, rfl, rfl, hMN, hN10⟩ := rule_nat hr
    have HR : Hid (longestOf M N P = (longest M N P : Int)) := by show _ = _; unfold longestOf; rw [hr]; simp
    have HK := Lib.hid (And.intro hMN hN10)
    have HA := Lib.hid (worstW_any w1 (M : Int) N v P HM.out (by omega) hN10 HV1.out)
    obtain ⟨T, hT⟩ : ∃ T, T = longest M N P := ⟨_, rfl⟩
    have HT := Lib.hid hT
    rw [← hT] at HR
    have hT30 : T ≤ 30 := by rw [hT]; exact longest_bd _ _ _
    clear hr hMN hN10 hT
    go_wp2_with fail
    refine HA.out.mono ?_
    rintro e w2 ⟨b, g, cap, p, rfl, hW, hp, hpb, hpg, hg⟩
    have HW2 := Lib.hid hW
    have HP2 := Lib.hid hp
    have HO2 := Lib.hid (And.intro hpb hpg)
    have HG2 := Lib.hid (grownN_trans HG1.out hg)
    have HSZ := Lib.hid HG1.out.size
    clear hW hp hpb hpg hg c0 c1
    go_wp2
    go_loopw [5] (fun i wr => ∃ d : Nat, ∃ L : List Bool, d ≤ T ∧ i = .int .i64 d ∧ Hid (d + longest M N L = T) ∧ Hid (Wy wr w1.heap.size b g cap (M : Int) N L) ∧ Hid (Box wr p #[.pointer (some ⟨b, 0, none⟩)] 164) ∧ Hid (w.grownBy wr none)) (fun i _ => T - (intOf i).toNat)
    case atStart => exact ⟨0, P, Nat.zero_le _, rfl, by show _ = _; rw [← HT.out]; simp, HW2, HP2, HG2⟩
    case round =>
      rename_i _ wr
      obtain ⟨d, L, hd, rfl, HE, HW, HP, HG⟩ := hrel
      have HC := Lib.hid (clos_two _ w1.heap.size b g cap p (M : Int) N L HW.out HP.out HO2.out.1 HO2.out.2)
      rw [may_dec] at HC
      cases hmy : may M N L
      · rw [hmy] at HC
        have HD : Hid (d = T) := by show _ = _; have := HE.out; rw [longest_calm HK.out.1 HK.out.2 hmy] at this; exact this
        clear hmy
        go_wp2_with fail
        refine HC.out.mono ?_
        rintro e w5 ⟨rfl, h5, h6, h7, h8⟩
        have HG5 := Lib.hid (below_grown ((grown_below HG.out _ (Nat.le_refl _)).trans (h7.mono HSZ.out)))
        clear h5 h6 h7 h8
        go_wp2
        go_ret
        exact ⟨ret_i64 (by rw [HR.out, HD.out]), HG5.out⟩
      · rw [hmy] at HC
        have hls := longest_storm HK.out.1 HK.out.2 hmy
        have HE2 : Hid ((d + 1) + longest M N (L ++ [true]) = T) := by show _ = _; have := HE.out; omega
        clear hmy hls
        go_wp2_with fail
        refine HC.out.mono ?_
        rintro e w5 ⟨rfl, h5, h6, h7, h8⟩
        have HG5 := Lib.hid (below_grown ((grown_below HG.out _ (Nat.le_refl _)).trans (h7.mono HSZ.out)))
        have HW5 := Lib.hid h5
        have HP5 := Lib.hid h6
        clear h5 h6 h7 h8
        have hdT : d + 1 ≤ T := by have := HE2.out; omega
        go_wp2
        go_roundw
        case rel => exact ⟨d + 1, L ++ [true], hdT, by go_num, HE2, HW5, HP5, HG5⟩
        case measure => simp [intOf]; omega
theorem lo_bd (m n : Int) (L : List Bool) : 0 ≤ longestOf m n L ∧ longestOf m n L ≤ 30 := by
  unfold longestOf
  have := longest_bd m.toNat n.toNat L
  split <;> omega
theorem lo_stop {m n : Int} {L : List Bool} (h : mayStorm m n L = false) : longestOf m n L = 0 := by
  unfold longestOf
  split
  · rename_i hr
    obtain ⟨M, N, rfl, rfl, hMN, hN10⟩ := rule_nat hr
    rw [mayStorm_may hr] at h
    simp [longest_calm hMN hN10 h]
  · rfl
theorem lo_go {m n : Int} {L : List Bool} (h : mayStorm m n L = true) : longestOf m n L = longestOf m n (L ++ [true]) + 1 := by
  unfold longestOf
  split
  · rename_i hr
    obtain ⟨M, N, rfl, rfl, hMN, hN10⟩ := rule_nat hr
    rw [mayStorm_may hr] at h
    have := longest_storm hMN hN10 h
    simp only [Int.toNat_natCast]
    omega
  · rename_i hr
    unfold mayStorm at h
    simp at h
    exact absurd h.1 hr
set_option maxRecDepth 20000 in
set_option maxHeartbeats 1000000 in
theorem sLong_any (w : World) (m n : Int) (hm : (Lit.int .i64 m).wf = true) (hn : (Lit.int .i64 n).wf = true) (v : Value) (P : List Bool) (hv : SeesG encB w v P) (hP : P.length ≤ 900000000) :
    Calls Try.prog 45 #[.agg #[.int .i64 m, .int .i64 n], v] w fun e w' => e = .returned (.int .i64 (longestOf m n P)) ∧ w.grownBy w' none := by
  have hgr := World.grownBy_alloc w (.cells #[.int .i64 m, .int .i64 n] 57 (0, 0)) none
  have hg0 := World.grownBy_alloc (w.alloc (.cells #[.int .i64 m, .int .i64 n] 57 (0, 0))) (.cells #[] 4 (0, 0)) none
  obtain ⟨va, vn, vc, rfl, HVN⟩ := hv.shape
  have HV := Lib.hid ((hv.grown hgr).grown hg0)
  have HG := Lib.hid (grownN_trans hgr hg0)
  have HB := Lib.hid ((box_new w #[.int .i64 m, .int .i64 n] 57).grown hg0)
  have HW : Hid (OwnG encB 4 ((w.alloc (.cells #[.int .i64 m, .int .i64 n] 57 (0, 0))).alloc (.cells #[] 4 (0, 0))) (w.heap.size + 1) (.slice (some ⟨w.heap.size + 1, 0, none⟩) 0 0) []) := by
    have := ownG_empty (e := encB) (E := 4) (w.alloc (.cells #[.int .i64 m, .int .i64 n] 57 (0, 0)))
    rw [World.size_alloc] at this
    exact this
  have HM := Lib.hid hm
  have HN := Lib.hid hn
  have HPL := Lib.hid hP
  have HS0 : Hid (w.heap.size + 1 ≤ ((w.alloc (.cells #[.int .i64 m, .int .i64 n] 57 (0, 0))).alloc (.cells #[] 4 (0, 0))).heap.size) := by show _ ≤ _; simp
  clear hgr hg0 hv hm hn
  obtain ⟨i0, hi0, hz0, hz1, hz2⟩ := info_parts info_boolL
  obtain ⟨T, hT⟩ : ∃ T, T = longestOf m n P := ⟨_, rfl⟩
  have HT := Lib.hid hT
  have hTb : 0 ≤ T ∧ T ≤ 30 := by rw [hT]; exact lo_bd _ _ _
  rw [← hT]
  clear hT
  go_enter Try.func45, Try.ntmps45
  go_wp2_with (at_builtin; go_loud (refine wpListG_append_sees _ rfl _ _ 55 rfl (w.heap.size + 1) 4 i0 (.bool false) 1 Try.underlying55 hi0 hz0 hz1 hz2 rfl _ [] rfl HW.out _ P rfl HV.out (by unfold maxLen; simp; omega) (by simp; omega) HS0.out ?_); intro v3 w3 hown3 hgrow3; rw [List.nil_append] at hown3; have HO3 := Lib.hid hown3; have HG3 := Lib.hid (grown_new HG.out hgrow3 (fun c hc => by have := (HW.out.lt c hc).1; omega)); have HB3 := Lib.hid (HB.out.kept hgrow3 (fun e => by have := (HW.out.lt _ e).1; omega)); have HS3 := Lib.hid (Nat.le_trans HS0.out hgrow3.size); clear hown3 hgrow3)
  go_loopw [5] (fun i wr => ∃ d : Nat, ∃ L : List Bool, ∃ ua un uc, (d : Int) ≤ T ∧ i = .slice ua un uc ∧ Hid (un = P.length + d) ∧ Hid (L.length = P.length + d) ∧ Hid ((d : Int) + longestOf m n L = T) ∧ Hid (OwnG encB 4 wr (w.heap.size + 1) (.slice ua un uc) L) ∧ Hid (Box wr w.heap.size #[.int .i64 m, .int .i64 n] 57) ∧ Hid (w.grownBy wr none) ∧ Hid (w.heap.size + 1 ≤ wr.heap.size)) (fun i _ => T.toNat + P.length - slen i)
  case atStart =>
    obtain ⟨ua, un, uc, rfl, HUN⟩ := HO3.out.sees.shape
    exact ⟨0, P, ua, un, uc, hTb.1, rfl, HUN.out.symm, rfl, by show _ = _; rw [HT.out]; simp, HO3, HB3, HG3, HS3⟩
  case round =>
    rename_i _ wr
    obtain ⟨d, L, ua, un, uc, hd, rfl, HUN, HLL, HE, HO, HBX, HGR, HSR⟩ := hrel
    obtain ⟨c0, c1⟩ := StormS.two HBX.out
    have HC := Lib.hid (sMayStorm_any wr m n HM.out HN.out _ L HO.out.sees)
    cases hmy : mayStorm m n L
    · rw [hmy] at HC
      have HD : Hid ((d : Int) = T) := by show _ = _; have := HE.out; rw [lo_stop hmy] at this; omega
      clear hmy
      go_wp2_with fail
      refine HC.out.mono ?_
      rintro e w5 ⟨rfl, hg⟩
      have HG5 := Lib.hid (grownN_trans HGR.out hg)
      have hans : IntKind.i64.wrap ((un : Int) - (vn : Int)) = (d : Int) := by
        have h1 := HVN.out
        have h2 := HUN.out
        rw [show (un : Int) - (vn : Int) = (d : Int) by omega]
        exact IntWalk.i64_in _ (by omega)
      clear hg
      go_wp2
      go_ret
      exact ⟨ret_i64 HD.out, HG5.out⟩
    · rw [hmy] at HC
      have hlg := lo_go hmy
      have hlb := lo_bd m n (L ++ [true])
      have HE2 : Hid (((d + 1 : Nat) : Int) + longestOf m n (L ++ [true]) = T) := by show _ = _; have := HE.out; omega
      have hdT : ((d + 1 : Nat) : Int) ≤ T := by have := HE2.out; omega
      clear hmy hlg hlb
      go_wp2_with fail
      refine HC.out.mono ?_
      rintro e w5 ⟨rfl, hg⟩
      have HO5 := Lib.hid (HO.out.grown hg)
      have HB5 := Lib.hid (HBX.out.grown hg)
      have HG5 := Lib.hid (grownN_trans HGR.out hg)
      have HS5 := Lib.hid (Nat.le_trans HSR.out hg.size)
      have HLB : Hid (L.length ≤ 1000000000) := by show _ ≤ _; have := HLL.out; have := HPL.out; omega
      clear hg c0 c1
      go_wp2_with (at_builtin; go_loud (refine wpListG_append_one _ rfl _ _ 55 rfl (w.heap.size + 1) 4 i0 (.bool false) 1 Try.underlying55 hi0 hz0 hz1 hz2 rfl _ L rfl HO5.out true #[.bool true] rfl rfl trivial HLB.out (by decide) HS5.out ?_); intro v6 w6 hown6 hgrow6 hloc6; have HO6 := Lib.hid hown6; have HB6 := Lib.hid (HB5.out.kept hgrow6 (fun e => by have := (HO5.out.lt _ e).1; omega)); have HG6 := Lib.hid (grown_new HG5.out hgrow6 (fun c hc => by have := (HO5.out.lt c hc).1; omega)); have HS6 := Lib.hid (Nat.le_trans HS5.out hgrow6.size); clear hown6 hgrow6 hloc6)
      obtain ⟨xa, xn, xc, rfl, HXN⟩ := HO6.out.sees.shape
      have HXQ : Hid (xn = P.length + (d + 1)) := by show _ = _; have h1 := HXN.out; rw [List.length_append] at h1; have := HLL.out; simp at h1; omega
      go_wp2
      go_roundw
      case rel => exact ⟨d + 1, L ++ [true], xa, xn, xc, hdT, rfl, HXQ, by show _ = _; rw [HXN.out]; exact HXQ.out, HE2, HO6, HB6, HG6, HS6⟩
      case measure => simp only [slen]; have h1 := HXQ.out; have h2 := HUN.out; omega
end Go.Proofs.Ytikdnfhekannfaa.Lgs

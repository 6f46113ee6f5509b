/- The law FnCrew: the ill eat but do not carry. No condition. -/
import Derived.Deep.RegionHeld3
import Derived.Deep.DeepCutAuto
import Derived.Test.YtlfhaanpfjfmcaaRows
import Derived.Test.YtlfhaanpfjfmcaaCrQ
import Derived.WalkKit
import Derived.ProofKit
import Derived.OpenShut
import Derived.ShutString
import Derived.ChangeOld
import Derived.Below
import Derived.Deep.DeepHandedRow
import Derived.Deep.DeepWitnessRowRef
import Derived.Lib.LaidTab
namespace Go.Proofs.Ytlfhaanpfjfmcaa.fnCrew
open Go.ChangeShapes Go.WideShapes Go.ChangeAt Go.RowKit
open Go.ChangeMaps (open_string shut_string)
set_option linter.unusedVariables false

theorem own : ownKnob Try.prog.godebug = none := by kernel_rfl
theorem laidOut : laidOutB Try.prog = true := by kernel_rfl

open Kit Rw Rg Inf Crw CrI CrH CrQ Draw Sil Same

set_option maxRecDepth 100000 in
set_option maxHeartbeats 16000000 in
theorem walk (w : World) (a : Option Addr) (len cap : Nat) (z : List Int) (w0 : Kit.IsRow .u8 w a len cap z) :
    Calls Try.prog 3 #[.slice a len cap] w fun e w' => e = .returned (.bool true) ∧ Below w.heap.size w w' := by
  have hll := w0.len_le
  have hl64 : len ≤ 9223372036854775807 := by unfold maxLen at hll; omega
  have HR := Lib.hid w0
  clear w0 hll
  by_cases hbig : 1048576 < len
  · go_enter Try.func3, Try.ntmps3
    go_wp2_with (go_at_call 10; refine (big_any _ _ _ _ hl64).mono ?_; rintro e w' ⟨rfl, rfl⟩)
    go_ret
    exact ⟨rfl, Below.refl _ _⟩
  have hlen : len ≤ 1048576 := by omega
  go_enter Try.func3, Try.ntmps3
  go_wp2_with fail
  refine (big_any _ _ _ _ hl64).mono ?_
  rintro e w' ⟨rfl, rfl⟩
  go_wp2_with fail
  refine (dSetIll_any w a len cap z HR.out).mono ?_
  rintro e w1 ⟨v, k, b, rfl, hk, L, ho⟩
  obtain ⟨va, vn, vc, hv, HVN⟩ := ho.own.sees.shape
  subst hv
  have HL4 := Lib.hid ho.len
  have HS1 := Lib.hid ho.own.sees
  have HG1 := Lib.hid ho.grown
  clear ho
  go_wp2_with fail
  refine (iSetIll_any w1 _ L k b (i64_mk (by omega)) HS1.out (by have := HL4.out; omega)).mono ?_
  rintro e w2 ⟨u, rfl, hx, hg⟩
  obtain ⟨ua, un, uc, hu, HUN⟩ := hx.sees.shape
  subst hu
  have ht : TW w w2 (.slice va vn vc) L (.slice ua un uc) (setIll L k b) := ⟨grownN_trans HG1.out hg, HS1.out.grown hg, hx.sees⟩
  have hun : un = vn := by have := HUN.out; have := HVN.out; rw [setIll_len] at *; omega
  subst hun
  have HT2 := Lib.hid ht
  have hu4 : un ≤ 4 := by have := HVN.out; have := HL4.out; omega
  clear hx hg ht HS1 HG1
  go_upto_region 5 with (fail)
  go_cut [5, 7, 74] (fun _ _ s wx => s = .bool false ∧ Hid (w.grownBy wx none))
  case first =>
    cases hok : setOk L k
    · go_wp2_with fail
      go_meet; exact ⟨rfl, HT2.out.grown⟩
    · have hc : areCrew L = true := by unfold setOk at hok; simp only [Bool.and_eq_true] at hok; exact hok.1
      have hh : hasId L k = true := by unfold setOk at hok; simp only [Bool.and_eq_true] at hok; exact hok.2
      have hX : setIll L k b = L.map (setOne k b) := by unfold setIll; rw [if_pos hc]
      have h1 := ill_need (id := k) (b := b) hc
      have h2 := healthy_ill (b := b) hh
      have h3 := ill_crew (id := k) (b := b) hc
      have h4 := needOf_bound L
      have h5 := capOf_bound L
      have h6 := capOf_bound (L.map (setOne k b))
      have h7 : b = true → capOf (L.map (setOne k b)) ≤ capOf L := fun e => by rw [e]; exact cap_ill hc
      have h8 : b = false → capOf L ≤ capOf (L.map (setOne k b)) := fun e => by rw [e]; exact cap_well hc
      rw [hX] at HT2 HUN
      obtain ⟨X, hXX⟩ : ∃ X, X = L.map (setOne k b) := ⟨_, rfl⟩
      rw [← hXX] at HT2 HUN h1 h2 h3 h6 h7 h8
      obtain ⟨q, hq⟩ : ∃ q, q = needOf L := ⟨_, rfl⟩
      obtain ⟨c1, hc1⟩ : ∃ c1, c1 = capOf X := ⟨_, rfl⟩
      obtain ⟨c2, hc2⟩ : ∃ c2, c2 = capOf L := ⟨_, rfl⟩
      rw [← hq] at h1 h4
      rw [← hc1] at h6 h7 h8
      rw [← hc2] at h5 h7 h8
      have H1 := Lib.hid h1
      have H2 := Lib.hid h2
      have H3 := Lib.hid h3
      have HQ := Lib.hid hq
      have HC1 := Lib.hid hc1
      have HC2 := Lib.hid hc2
      clear hc hh hX h1 h2 h3 hXX hq hc1 hc2 hok
      cases b
      · have h9 := h8 rfl
        have hlt : ¬ c1 < c2 := by omega
        clear h7 h8

        go_wp2_with fail
        refine (needQ HT2.out HT2.out.x).mono ?_
        rintro e w13 ⟨rfl, ht⟩
        have HT3 := Lib.hid ht
        clear ht
        rw [H1.out]
        go_wp2_with fail
        refine (needQ HT3.out HT3.out.l).mono ?_
        rintro e w14 ⟨rfl, ht⟩
        have HT4 := Lib.hid ht
        clear ht
        rw [← HQ.out]
        have hqq : (q != q) = false := by simp
        go_wp2_with fail
        refine (wellQ HT4.out HT4.out.x (by have := HUN.out; omega)).mono ?_
        rintro e w15 ⟨r5, rfl, hr, ht⟩
        obtain ⟨ra5, rn5, rc5, hrs, HRN5⟩ := hr.shape
        subst hrs
        have HRS5 := Lib.hid hr
        clear hr
        have HT5 := Lib.hid ht
        clear ht
        go_wp2_with fail
        refine (has_any _ _ k _ HRS5.out).mono ?_
        rintro e w35 ⟨rfl, rfl⟩
        rw [H2.out]
        go_wp2_with fail
        refine (capQ HT5.out HT5.out.x).mono ?_
        rintro e w16 ⟨rfl, ht⟩
        have HT6 := Lib.hid ht
        clear ht
        rw [← HC1.out]
        go_wp2_with fail
        refine (capQ HT6.out HT6.out.l).mono ?_
        rintro e w17 ⟨rfl, ht⟩
        have HT7 := Lib.hid ht
        clear ht
        rw [← HC2.out]
        go_wp2_with fail
        refine (crewQ HT7.out HT7.out.x).mono ?_
        rintro e w18 ⟨rfl, ht⟩
        have HT8 := Lib.hid ht
        clear ht
        rw [H3.out]
        go_wp2_with fail
        go_meet; exact ⟨by first | rfl | exact congrArg Value.bool (decide_eq_false (by omega)), HT8.out.grown⟩
      · have h9 := h7 rfl
        have hlt : ¬ c2 < c1 := by omega
        clear h7 h8
        go_wp2_with fail
        refine (needQ HT2.out HT2.out.x).mono ?_
        rintro e w13 ⟨rfl, ht⟩
        have HT3 := Lib.hid ht
        clear ht
        rw [H1.out]
        go_wp2_with fail
        refine (needQ HT3.out HT3.out.l).mono ?_
        rintro e w14 ⟨rfl, ht⟩
        have HT4 := Lib.hid ht
        clear ht
        rw [← HQ.out]
        have hqq : (q != q) = false := by simp
        go_wp2_with fail
        refine (wellQ HT4.out HT4.out.x (by have := HUN.out; omega)).mono ?_
        rintro e w15 ⟨r5, rfl, hr, ht⟩
        obtain ⟨ra5, rn5, rc5, hrs, HRN5⟩ := hr.shape
        subst hrs
        have HRS5 := Lib.hid hr
        clear hr
        have HT5 := Lib.hid ht
        clear ht
        go_wp2_with fail
        refine (has_any _ _ k _ HRS5.out).mono ?_
        rintro e w35 ⟨rfl, rfl⟩
        rw [H2.out]
        go_wp2_with fail
        refine (capQ HT5.out HT5.out.x).mono ?_
        rintro e w16 ⟨rfl, ht⟩
        have HT6 := Lib.hid ht
        clear ht
        rw [← HC1.out]
        go_wp2_with fail
        refine (capQ HT6.out HT6.out.l).mono ?_
        rintro e w17 ⟨rfl, ht⟩
        have HT7 := Lib.hid ht
        clear ht
        rw [← HC2.out]
        go_wp2_with fail
        refine (crewQ HT7.out HT7.out.x).mono ?_
        rintro e w18 ⟨rfl, ht⟩
        have HT8 := Lib.hid ht
        clear ht
        rw [H3.out]
        go_wp2_with fail
        go_meet; exact ⟨by first | rfl | exact congrArg Value.bool (decide_eq_false (by omega)), HT8.out.grown⟩
  case rest =>
  obtain ⟨rfl, HG3⟩ := hcut
  clear HT2
  go_wp2_with fail
  refine (dStrongest_any _ a len cap z (HR.out.below (grown_below HG3.out _ (Nat.le_refl _)))).mono ?_
  rintro e w4 ⟨p, rfl, P, ho⟩
  obtain ⟨pa, pn, pc, hp, HPN⟩ := ho.own.sees.shape
  subst hp
  have HS4 := Lib.hid ho.own.sees
  have HG4 := Lib.hid (grownN_trans HG3.out ho.grown)
  have HL5 := Lib.hid ho.len
  clear ho
  go_wp2_with fail
  refine (iStrongest_any _ _ P HS4.out).mono ?_
  rintro e w5 ⟨rfl, hg⟩
  have HS5 := Lib.hid (HS4.out.grown hg)
  have HG5 := Lib.hid (grownN_trans HG4.out hg)
  clear hg HS4 HG4
  go_wp2_with fail
  refine (dCapOf_any _ a len cap z (HR.out.below (grown_below HG5.out _ (Nat.le_refl _)))).mono ?_
  rintro e w6 ⟨y, rfl, Y, ho⟩
  obtain ⟨ya, yn, yc, hy, HYN⟩ := ho.own.sees.shape
  subst hy
  have ht : TW w w6 (.slice pa pn pc) P (.slice ya yn yc) Y := ⟨grownN_trans HG5.out ho.grown, HS5.out.grown ho.grown, ho.own.sees⟩
  have HT2 := Lib.hid ht
  clear ho ht HS5 HG5
  have hs1 := fun h => strong_in (L := P) h
  have hs2 := fun h => strong_zero (L := P) h
  obtain ⟨s, hs⟩ : ∃ s, s = strongest P := ⟨_, rfl⟩
  rw [← hs] at hs1 hs2 ⊢
  have hcb := capOf_bound Y
  obtain ⟨cb, hcb'⟩ : ∃ cb, cb = capOf Y := ⟨_, rfl⟩
  rw [← hcb'] at hcb
  have HCB := Lib.hid hcb'
  have hnb := needOf_bound Y
  have hnc := need_crew Y
  obtain ⟨nb, hnb'⟩ : ∃ nb, nb = needOf Y := ⟨_, rfl⟩
  rw [← hnb'] at hnb hnc
  have HNB := Lib.hid hnb'
  have HNC := Lib.hid hnc
  have hhl : (healthy P).length ≤ 4 := by have := healthy_len P; have := HL5.out; omega
  have HHL := Lib.hid hhl
  clear hcb' hnb' hnc hs hhl
  go_upto_region 10 with (fail)
  go_cut [2, 9] (fun s _ wx => s = .bool true ∧ Hid (w.grownBy wx none))
  case first =>
    by_cases hs0 : s = 0
    · subst hs0
      clear hs1
      cases hcp : areCrew P
      · clear hs2
        go_wp2_with fail
        refine (crewQ HT2.out HT2.out.l).mono ?_
        rintro e w13 ⟨rfl, ht⟩
        have HT3 := Lib.hid ht
        clear ht
        rw [hcp]
        go_wp2_with fail
        refine (capQ HT3.out HT3.out.x).mono ?_
        rintro e w14 ⟨rfl, ht⟩
        have HT4 := Lib.hid ht
        clear ht
        rw [← HCB.out]
        have hnc := HNC.out
        cases hcy : areCrew Y
        · rw [hcy] at hnc
          have hn0 : ¬ 0 < nb := by simpa using hnc
          clear hnc
          go_wp2_with fail
          refine (needQ HT4.out HT4.out.x).mono ?_
          rintro e w15 ⟨rfl, ht⟩
          have HT5 := Lib.hid ht
          clear ht
          rw [← HNB.out]
          go_wp2_with fail
          refine (crewQ HT5.out HT5.out.x).mono ?_
          rintro e w16 ⟨rfl, ht⟩
          have HT6 := Lib.hid ht
          clear ht
          rw [hcy]
          go_wp2_with fail
          go_meet; exact ⟨by first | rfl | (simp [hn0]; done) | (simp [hn0, hs0]; done) | (simp [hs0]; done), HT6.out.grown⟩
        · rw [hcy] at hnc
          have hn0 : 0 < nb := by simpa using hnc
          clear hnc
          go_wp2_with fail
          refine (needQ HT4.out HT4.out.x).mono ?_
          rintro e w15 ⟨rfl, ht⟩
          have HT5 := Lib.hid ht
          clear ht
          rw [← HNB.out]
          go_wp2_with fail
          refine (crewQ HT5.out HT5.out.x).mono ?_
          rintro e w16 ⟨rfl, ht⟩
          have HT6 := Lib.hid ht
          clear ht
          rw [hcy]
          go_wp2_with fail
          go_meet; exact ⟨by first | rfl | (simp [hn0]; done) | (simp [hn0, hs0]; done) | (simp [hs0]; done), HT6.out.grown⟩
      · have hz := hs2 hcp
        have HZ := Lib.hid hz
        clear hs2 hz
        go_wp2_with fail
        refine (crewQ HT2.out HT2.out.l).mono ?_
        rintro e w13 ⟨rfl, ht⟩
        have HT3 := Lib.hid ht
        clear ht
        rw [hcp]
        go_wp2_with fail
        refine (wellQ HT3.out HT3.out.l (by have := HL5.out; omega)).mono ?_
        rintro e w14 ⟨r4, rfl, hr, ht⟩
        obtain ⟨ra4, rn4, rc4, hrs, HRN4⟩ := hr.shape
        subst hrs
        have HRS4 := Lib.hid hr
        clear hr
        have HT4 := Lib.hid ht
        clear ht
        have hrl := HRN4.out
        have hz := HZ.out
        rw [hrl] at hz
        have hr0 : rn4 = 0 := by simpa using hz
        subst hr0
        clear hrl hz
        go_wp2_with fail
        refine (capQ HT4.out HT4.out.x).mono ?_
        rintro e w15 ⟨rfl, ht⟩
        have HT5 := Lib.hid ht
        clear ht
        rw [← HCB.out]
        have hnc := HNC.out
        cases hcy : areCrew Y
        · rw [hcy] at hnc
          have hn0 : ¬ 0 < nb := by simpa using hnc
          clear hnc
          go_wp2_with fail
          refine (needQ HT5.out HT5.out.x).mono ?_
          rintro e w16 ⟨rfl, ht⟩
          have HT6 := Lib.hid ht
          clear ht
          rw [← HNB.out]
          go_wp2_with fail
          refine (crewQ HT6.out HT6.out.x).mono ?_
          rintro e w17 ⟨rfl, ht⟩
          have HT7 := Lib.hid ht
          clear ht
          rw [hcy]
          go_wp2_with fail
          go_meet; exact ⟨by first | rfl | (simp [hn0]; done) | (simp [hn0, hs0]; done) | (simp [hs0]; done), HT7.out.grown⟩
        · rw [hcy] at hnc
          have hn0 : 0 < nb := by simpa using hnc
          clear hnc
          go_wp2_with fail
          refine (needQ HT5.out HT5.out.x).mono ?_
          rintro e w16 ⟨rfl, ht⟩
          have HT6 := Lib.hid ht
          clear ht
          rw [← HNB.out]
          go_wp2_with fail
          refine (crewQ HT6.out HT6.out.x).mono ?_
          rintro e w17 ⟨rfl, ht⟩
          have HT7 := Lib.hid ht
          clear ht
          rw [hcy]
          go_wp2_with fail
          go_meet; exact ⟨by first | rfl | (simp [hn0]; done) | (simp [hn0, hs0]; done) | (simp [hs0]; done), HT7.out.grown⟩
    · have hin : decide (s ∈ healthy P) = true := decide_eq_true (hs1 hs0)
      have HIN := Lib.hid hin
      clear hs1 hin
      go_wp2_with fail
      refine (wellQ HT2.out HT2.out.l (by have := HL5.out; omega)).mono ?_
      rintro e w13 ⟨r3, rfl, hr, ht⟩
      obtain ⟨ra3, rn3, rc3, hrs, HRN3⟩ := hr.shape
      subst hrs
      have HRS3 := Lib.hid hr
      clear hr
      have HT3 := Lib.hid ht
      clear ht
      go_wp2_with fail
      refine (has_any _ _ s _ HRS3.out).mono ?_
      rintro e w33 ⟨rfl, rfl⟩
      rw [HIN.out]
      cases hcp : areCrew P
      · clear hs2
        go_wp2_with fail
        refine (crewQ HT3.out HT3.out.l).mono ?_
        rintro e w14 ⟨rfl, ht⟩
        have HT4 := Lib.hid ht
        clear ht
        rw [hcp]
        go_wp2_with fail
        refine (capQ HT4.out HT4.out.x).mono ?_
        rintro e w15 ⟨rfl, ht⟩
        have HT5 := Lib.hid ht
        clear ht
        rw [← HCB.out]
        have hnc := HNC.out
        cases hcy : areCrew Y
        · rw [hcy] at hnc
          have hn0 : ¬ 0 < nb := by simpa using hnc
          clear hnc
          go_wp2_with fail
          refine (needQ HT5.out HT5.out.x).mono ?_
          rintro e w16 ⟨rfl, ht⟩
          have HT6 := Lib.hid ht
          clear ht
          rw [← HNB.out]
          go_wp2_with fail
          refine (crewQ HT6.out HT6.out.x).mono ?_
          rintro e w17 ⟨rfl, ht⟩
          have HT7 := Lib.hid ht
          clear ht
          rw [hcy]
          go_wp2_with fail
          go_meet; exact ⟨by first | rfl | (simp [hn0]; done) | (simp [hn0, hs0]; done) | (simp [hs0]; done), HT7.out.grown⟩
        · rw [hcy] at hnc
          have hn0 : 0 < nb := by simpa using hnc
          clear hnc
          go_wp2_with fail
          refine (needQ HT5.out HT5.out.x).mono ?_
          rintro e w16 ⟨rfl, ht⟩
          have HT6 := Lib.hid ht
          clear ht
          rw [← HNB.out]
          go_wp2_with fail
          refine (crewQ HT6.out HT6.out.x).mono ?_
          rintro e w17 ⟨rfl, ht⟩
          have HT7 := Lib.hid ht
          clear ht
          rw [hcy]
          go_wp2_with fail
          go_meet; exact ⟨by first | rfl | (simp [hn0]; done) | (simp [hn0, hs0]; done) | (simp [hs0]; done), HT7.out.grown⟩
      · have hz := hs2 hcp
        have HZ := Lib.hid hz
        clear hs2 hz
        go_wp2_with fail
        refine (crewQ HT3.out HT3.out.l).mono ?_
        rintro e w14 ⟨rfl, ht⟩
        have HT4 := Lib.hid ht
        clear ht
        rw [hcp]
        go_wp2_with fail
        refine (wellQ HT4.out HT4.out.l (by have := HL5.out; omega)).mono ?_
        rintro e w15 ⟨r5, rfl, hr, ht⟩
        obtain ⟨ra5, rn5, rc5, hrs, HRN5⟩ := hr.shape
        subst hrs
        have HRS5 := Lib.hid hr
        clear hr
        have HT5 := Lib.hid ht
        clear ht
        have hrl := HRN5.out
        have hz := HZ.out
        rw [hrl] at hz
        have hr0 : ((rn5 : Int) == 0) = false := by simp [hs0] at hz; simp; omega
        have hr1 : ¬ ((rn5 : Int) = 0) := by simpa using hr0
        clear hrl hz
        go_wp2_with fail
        refine (capQ HT5.out HT5.out.x).mono ?_
        rintro e w16 ⟨rfl, ht⟩
        have HT6 := Lib.hid ht
        clear ht
        rw [← HCB.out]
        have hnc := HNC.out
        cases hcy : areCrew Y
        · rw [hcy] at hnc
          have hn0 : ¬ 0 < nb := by simpa using hnc
          clear hnc
          go_wp2_with fail
          refine (needQ HT6.out HT6.out.x).mono ?_
          rintro e w17 ⟨rfl, ht⟩
          have HT7 := Lib.hid ht
          clear ht
          rw [← HNB.out]
          go_wp2_with fail
          refine (crewQ HT7.out HT7.out.x).mono ?_
          rintro e w18 ⟨rfl, ht⟩
          have HT8 := Lib.hid ht
          clear ht
          rw [hcy]
          go_wp2_with fail
          go_meet; exact ⟨by first | rfl | (simp [hn0]; done) | (simp [hn0, hs0]; done) | (simp [hs0]; done), HT8.out.grown⟩
        · rw [hcy] at hnc
          have hn0 : 0 < nb := by simpa using hnc
          clear hnc
          go_wp2_with fail
          refine (needQ HT6.out HT6.out.x).mono ?_
          rintro e w17 ⟨rfl, ht⟩
          have HT7 := Lib.hid ht
          clear ht
          rw [← HNB.out]
          go_wp2_with fail
          refine (crewQ HT7.out HT7.out.x).mono ?_
          rintro e w18 ⟨rfl, ht⟩
          have HT8 := Lib.hid ht
          clear ht
          rw [hcy]
          go_wp2_with fail
          go_meet; exact ⟨by first | rfl | (simp [hn0]; done) | (simp [hn0, hs0]; done) | (simp [hs0]; done), HT8.out.grown⟩
  case rest =>
  obtain ⟨rfl, HG9⟩ := hcut
  go_wp2
  go_ret
  exact ⟨rfl, grown_below HG9.out _ (Nat.le_refl _)⟩

set_option maxRecDepth 100000 in
/-- What the walk gives, for every argument. -/
theorem contract (H : Type) (enc : TypeId × Value → H) (W : World) (base : Nat) (args : Array Value) (ds gs : List (DataW H)) (before : List MemPlace)
    (hval : ∀ (j : Nat) t v, Try.f3.params[j]? = some t → args[j]? = some v → Value.okWide Try.prog W .any base t v)
    (hW : DataW.Whole enc Try.prog Try.f3.params.toList Rows.fnCrewSpec.vars false W args.toList ds gs before) :
    Calls Try.prog 3 args W fun e W' => ∃ v, e = .returned v ∧ Rows.fnCrewSpec.post enc Try.prog Try.f3 false true false false W args v W' := by
  have hW' := hW
  obtain ⟨p, q, hA0, hV, rfl, hfz, hnd⟩ := hW
  have hA : DataW.TrodAll enc Try.prog W 0 (fun _ => true) true Try.f3.params.toList args.toList ds p := hA0
  rw [Try.params3] at hA hval
  obtain ⟨v0, vs0, d0, ds0, p0, q0, hargs, rfl, rfl, h0, r0⟩ := trodAll_cons hA
  obtain ⟨rfl, rfl, rfl⟩ := trodAll_nil r0
  obtain rfl : args = #[v0] := by cases args; simp_all
  obtain ⟨rfl, rfl⟩ := trodVars_none hV
  obtain ⟨a0, len0, cap0, rfl⟩ := okWide_slice Try.underlying22 (hval 0 22 v0 rfl rfl)
  have k0 := h0
  have lt0 : ∀ x ∈ p0, x.block < W.heap.size := by obtain ⟨m, hm⟩ := k0; exact DataW.trod_lt m _ _ _ hm
  obtain ⟨z0, w0⟩ : ∃ zs, Kit.IsRow .u8 W a0 len0 cap0 zs := Kit.row_open Try.underlying22 Try.underlying5 (by kernel_rfl) h0
  clear hA0
  refine (walk W a0 len0 cap0 z0 w0).mono fun e W' ⟨he, bel⟩ => ?_
  subst he
  exact ⟨_, rfl, _, _, _, [], _, [], hW', trodAll_mk1 (shut_bool Try.underlying4 _), (trodAll_cons_mk (Below.trod laidOut (by kernel_rfl) (of_decide_eq_true (by kernel_rfl)) k0 bel lt0) trodAll_mk0), rfl, bel.frame _, fun h => by cases h⟩

noncomputable def laidWorld (os : Os) : World := World.holding Try.prog os ⟨#[], #[], []⟩
theorem reads (os : Os) {H : Type} (enc : TypeId × Value → H) : ∃ places, DataW.whole enc Try.prog ((laidWorld os).forCall (fun _ _ => 0) ⟨#[], #[.slice none 0 0], []⟩).memory Try.f3.params.toList Rows.fnCrewSpec.vars false (#[.slice none 0 0] : Array Value).toList 8 = some ([.nil], [], places) :=
  ⟨[], by kernel_rfl⟩

set_option maxRecDepth 100000 in
theorem lifted (os : Os) (started : os.Started) (H : Type) (enc : TypeId × Value → H) (F : Stop.Interp) :
    ReturnsInHanded {} Try.checked os 3 .any ((OpenSpec.ofChange Rows.fnCrewSpec).preRow enc Try.prog Try.f3 Rows.fnCrewRow.domain false Rows.fnCrewRow.laid) (((OpenSpec.ofChange Rows.fnCrewSpec).at F).post enc Try.prog Try.f3 false true false false) := by
  obtain ⟨places, hx⟩ := reads os enc
  refine returnsInHanded_of_row (C := Try.checked) (s := (OpenSpec.ofChange Rows.fnCrewSpec)) own started (by kernel_rfl) Try.func3
    (witness_row_at (enc := enc) (C := Try.checked) false (laidWorld os) #[.slice none 0 0] rfl (by kernel_rfl) (by kernel_rfl) (by kernel_rfl)
      (OpenSpec.preRow_of_cond 8 hx (by kernel_rfl) (fun k hk => by cases hk) (by kernel_rfl) (laidMetH_nil _ _))) ?_
  intro W base args ds gs before hval hW _ _ _ _ _ _
  exact contract H enc W base args ds gs before hval hW

set_option maxRecDepth 100000 in
theorem said : Rows.FnCrewSaid :=
  OpenClaim.holds_of_cond 3 Try.f3 rfl rfl rfl rfl rfl rfl rfl ⟨rfl, rfl, rfl, rfl, rfl⟩ rfl rfl rfl rfl rfl (by kernel_rfl) Try.func3 (by kernel_rfl)
    (of_decide_eq_true (by kernel_rfl)) (by unfold Func.isWrapper; first | (rw [if_pos (by decide +kernel)]; kernel_rfl) | (rw [if_neg (by decide +kernel)]; exact ⟨rfl, rfl⟩))
    (fun os started H enc _ F => by rw [OpenClaim.pre_eq_preRow]; exact lifted os started H enc F)

theorem proved : Rows.FnCrewSaid := said
#print axioms proved
end Go.Proofs.Ytlfhaanpfjfmcaa.fnCrew

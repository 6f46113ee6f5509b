/- Contract of the model's SlowestDays. -/
import Derived.Test.YtbpiojnehomljaaSly
namespace Go.Proofs.Ytbpiojnehomljaa.Sld
open Go.RowKit Kit Rw Rg Stm StormS StI Hom Md Mn Cwx

theorem sMost_any (a b : Int) (w : World) :
    Calls Try.prog 102 #[.int .i64 a, .int .i64 b] w fun e w' => e = .returned (.int .i64 (most a b)) ∧ w = w' := by
  unfold most
  by_cases h : a < b
  · rw [if_pos h]
    go_enter Try.func102, Try.ntmps102
    go_wp2
    go_ret
    exact ⟨rfl, rfl⟩
  · rw [if_neg h]
    go_enter Try.func102, Try.ntmps102
    go_wp2
    go_ret
    exact ⟨rfl, rfl⟩
set_option maxRecDepth 100000 in
set_option maxHeartbeats 1000000 in
theorem sSl_zero (w : World) (m n : Int) (v : Value) (P : List Bool) (hv : SeesG encB w v P) :
    Calls Try.prog 73 #[.agg #[.int .i64 m, .int .i64 n], v, .int .i64 ((0 : Nat) : Int)] w fun e w' => e = .returned (.int .i64 ((0 : Nat) : Int)) ∧ w.grownBy w' none := by
  have HG := Lib.hid (World.grownBy_alloc w (.cells #[.int .i64 m, .int .i64 n] 49 (0, 0)) none)
  obtain ⟨va, vn, vc, rfl, _⟩ := hv.shape
  go_enter Try.func73, Try.ntmps73
  go_wp2
  go_ret
  exact ⟨rfl, HG.out⟩
set_option maxRecDepth 100000 in
set_option maxHeartbeats 8000000 in
theorem sSl_any (M Nn : Nat) (hr : isRule (M : Int) (Nn : Int) = true) : ∀ (f : Nat) (q : Nat) (w : World) (v : Value) (P : List Bool), mu P q ≤ f → q ≤ 3 → SeesG encB w v P → P.length + f ≤ 3000000 →
    Calls Try.prog 73 #[.agg #[.int .i64 (M : Int), .int .i64 (Nn : Int)], v, .int .i64 (q : Int)] w fun e w' => e = .returned (.int .i64 (slow M Nn q P)) ∧ w.grownBy w' none := by
  have hn10 : Nn ≤ 10 := by unfold isRule at hr; simp at hr; omega
  have hmn : M < Nn := by unfold isRule at hr; simp at hr; omega
  have hmw : (Lit.int .i64 (M : Int)).wf = true := i64_mk (by unfold isRule at hr; simp at hr; omega)
  have hnw : (Lit.int .i64 (Nn : Int)).wf = true := i64_mk (by omega)
  obtain ⟨i0, hi, hz0, hz1, hz2⟩ := info_parts info_b
  intro f
  induction f with
  | zero =>
    intro q w v P hf hq hv hP
    have := mu_zero hf
    subst this
    rw [slow_zero]
    exact sSl_zero w M Nn v P hv
  | succ f ih =>
    intro q w v P hf hq hv hP
    rcases q with _ | q
    · rw [slow_zero]
      exact sSl_zero w M Nn v P hv
    have g1 := World.grownBy_alloc w (.cells #[.int .i64 (M : Int), .int .i64 (Nn : Int)] 49 (0, 0)) none
    have HGa := Lib.hid g1
    have HBa := Lib.hid (box_new w #[.int .i64 (M : Int), .int .i64 (Nn : Int)] 49)
    have HVa := Lib.hid (hv.grown g1)
    have hms := mayStorm_may (L := P) hr
    have hMS := fun W hx => sMayStorm_any W (M : Int) (Nn : Int) hmw hnw v P hx
    rw [hms] at hMS
    have HMS := Lib.hid hMS
    have hmu := mu_calm (L := P) (q := q + 1) (by omega)
    have e11 : q + 1 - 1 = q := by omega
    rw [e11] at hmu
    have hb1 := slow_le M Nn q (P ++ [false])
    have hb2 := slow_le M Nn (q + 1) (P ++ [true])
    have hi1 := fun W (u : Value) (hu : SeesG encB W u (P ++ [false])) => ih q W u (P ++ [false]) (by omega) (by omega) hu (by simp; omega)
    have hnx := slow_next (L := P) (q := q) hmn hn10
    have hi2 : may M Nn P = true → ∀ W (u : Value), SeesG encB W u (P ++ [true]) → _ := fun hm W u hu => ih (q + 1) W u (P ++ [true]) (by have := mu_storm (L := P) (q := q + 1) hmn hn10 (by omega) hm; omega) hq hu (by simp; omega)
    obtain ⟨x1, hx1⟩ : ∃ x, x = slow M Nn q (P ++ [false]) := ⟨_, rfl⟩
    obtain ⟨x2, hx2⟩ : ∃ x, x = slow M Nn (q + 1) (P ++ [true]) := ⟨_, rfl⟩
    rw [← hx1] at hb1 hi1 hnx
    rw [← hx2] at hb2 hnx
    have hi2' : may M Nn P = true → ∀ W (u : Value), SeesG encB W u (P ++ [true]) → Calls Try.prog 73 #[.agg #[.int .i64 (M : Int), .int .i64 (Nn : Int)], u, .int .i64 ((q + 1 : Nat) : Int)] W fun e w' => e = .returned (.int .i64 (x2 : Int)) ∧ W.grownBy w' none := by rw [hx2]; exact hi2
    have q1 : IntKind.i64.wrap (((q + 1 : Nat) : Int) - 1) = (q : Int) := (IntWalk.i64_in _ (by omega)).trans (by omega)
    have q2 : IntKind.i64.wrap (1 + (x1 : Int)) = ((1 + x1 : Nat) : Int) := (IntWalk.i64_in _ (by omega)).trans (by omega)
    have q3 : IntKind.i64.wrap (1 + (x2 : Int)) = ((1 + x2 : Nat) : Int) := (IntWalk.i64_in _ (by omega)).trans (by omega)
    have hz : ((((q + 1 : Nat) : Int)) == 0) = false := by first | (simp; done) | (simp; omega)
    have hPL : P.length ≤ 3000000 := by omega
    obtain ⟨y1, hy1⟩ : ∃ y : Nat, y = 1 + x1 := ⟨_, rfl⟩
    obtain ⟨y2, hy2⟩ : ∃ y : Nat, y = 1 + x2 := ⟨_, rfl⟩
    rw [← hy1] at q2 hnx
    rw [← hy2] at q3 hnx
    have HIH1 := Lib.hid hi1
    have HIH0 := Lib.hid hi2'
    have HNX := Lib.hid hnx
    have HMO := Lib.hid (most_nat y1 y2)
    obtain ⟨va, vn, vc, rfl, _⟩ := hv.shape
    obtain ⟨N1, hN1⟩ : ∃ z : Int, z = ((q + 1 : Nat) : Int) := ⟨_, rfl⟩
    rw [← hN1] at q1 hz HIH0 ⊢
    clear g1 hv hP hms hMS ih hx1 hx2 hb1 hb2 hN1 hi1 hi2 hi2' hnx hy1 hy2 hmu e11 hf hq
    go_enter Try.func73, Try.ntmps73
    go_wp2_with fail
    generalize w.alloc (.cells #[.int .i64 (M : Int), .int .i64 (Nn : Int)] 49 (0, 0)) = W1 at *
    have HDa := Lib.hid (grown_drew (World.grownBy.refl W1 none))
    have HPGa : Hid (∀ W, W1.grownBy W none → W.cell? ⟨w.heap.size, 0, none⟩ = some (.int .i64 (M : Int)) ∧ W.cell? ⟨w.heap.size, 1, none⟩ = some (.int .i64 (Nn : Int))) := fun W hg => ⟨(HBa.out.grown hg).cell 0, (HBa.out.grown hg).cell 1⟩
    have HVSa := Lib.hid (fun W (hg : W1.grownBy W none) => HVa.out.grown hg)
    go_wp2_with fail
    go_region_held_law (fun w' => w'.cell? ⟨w.heap.size, 0, none⟩ = some (.int .i64 (M : Int)) ∧ w'.cell? ⟨w.heap.size, 1, none⟩ = some (.int .i64 (Nn : Int))) (first | exact HPGa.out _ HDa.out | exact HPGa.out _ (grown_drew (World.grownBy_alloc _ _ none)) | exact HPGa.out _ (grown_drew (grownN_trans (World.grownBy_alloc _ _ none) (World.grownBy_alloc _ _ none))) | exact HPGa.out _ HG2a.out | exact HPGa.out _ (grownN_trans HG2a.out (World.grownBy_alloc _ _ none)) | exact HPGa.out _ HG4a.out | exact HPGa.out _ HGEa.out) (first | (refine App.stepG_append (e := encB) _ (by rfl) _ _ _ (by rfl) W1.heap.size 4 i0 (.bool false) 1 Try.underlying44 hi hz0 hz1 hz2 (by rfl) _ [] (by rfl) (by first | exact (ownG_empty W1).grown (grown_drew (World.grownBy.refl _ none)) | exact (ownG_empty W1).grown (grown_drew (World.grownBy_alloc _ _ none)) | (have h := (ownG_empty (e := encB) (E := 4) (W1.alloc (.cells #[.bool false] 4 (0, 0)))).grown (grown_drew (World.grownBy.refl _ none)); simp only [World.size_alloc] at h; exact h.lower (Nat.le_succ _))) _ P (by rfl) (HVSa.out _ (by first | exact HDa.out | exact grown_drew (World.grownBy_alloc _ _ none) | exact grown_drew (grownN_trans (World.grownBy_alloc _ _ none) (World.grownBy_alloc _ _ none)) | exact HG2a.out | exact grownN_trans HG2a.out (World.grownBy_alloc _ _ none) | exact HG4a.out)) (by unfold maxLen; simp; omega) (by simp; omega) W1 (by first | exact HDa.out | exact grown_drew (World.grownBy_alloc _ _ none) | exact grown_drew (grownN_trans (World.grownBy_alloc _ _ none) (World.grownBy_alloc _ _ none)) | exact HG2a.out | exact grownN_trans HG2a.out (World.grownBy_alloc _ _ none) | exact HG4a.out) rfl ?_; intro v2 w2 ho2 hgr2 hw2; rw [List.nil_append] at ho2; have HO2a := Lib.hid ho2; have HG2a := Lib.hid hw2; clear ho2 hw2) | (refine App.stepG_append (e := encB) _ (by rfl) _ _ _ (by rfl) W1.heap.size 4 i0 (.bool false) 1 Try.underlying44 hi hz0 hz1 hz2 (by rfl) _ P (by rfl) (by first | exact HO2a.out | exact HO2a.out.grown (World.grownBy_alloc _ _ _)) _ [false] (by rfl) (by first | exact seesG_one (e := encB) (E := 4) _ false #[.bool false] rfl trivial | (have h := seesG_one (e := encB) (E := 4) (W1.alloc (.cells #[] 4 (0, 0))) false #[.bool false] rfl trivial; simp only [World.size_alloc] at h; exact (h.grown (grown_drew (World.grownBy.refl _ none))).kept hgr2 (.inr (fun hh => absurd (Option.some.inj (show some (W1.heap.size + 1) = some W1.heap.size from hh)) (by omega)))) | exact ((seesG_one (e := encB) (E := 4) W1 false #[.bool false] rfl trivial).grown (grown_drew (World.grownBy_alloc _ _ none))).kept hgr2 (.inr (fun hh => absurd (Option.some.inj (show some W1.heap.size = some (W1.heap.size + 1) from hh)) (by omega)))) (by unfold maxLen; simp; omega) (by simp; omega) W1 (by first | exact HDa.out | exact grown_drew (World.grownBy_alloc _ _ none) | exact grown_drew (grownN_trans (World.grownBy_alloc _ _ none) (World.grownBy_alloc _ _ none)) | exact HG2a.out | exact grownN_trans HG2a.out (World.grownBy_alloc _ _ none) | exact HG4a.out) rfl ?_; intro v4 w4 ho4 hgr4 hw4; have HO4a := Lib.hid ho4; have HG4a := Lib.hid hw4; clear ho4 hgr4 hw4) | (have hzz := HG4a.out; clear hzz; go_at_call 73; refine (HIH1.out _ _ HO4a.out.sees).mono ?_; rintro e wEa ⟨rfl, hgE⟩; have HGEa := Lib.hid (grownN_trans HG4a.out hgE); clear hgE))
    all_goals
      have r0 := (HPGa.out _ HGEa.out).1
      have r1 := (HPGa.out _ HGEa.out).2
      go_wp2_with fail
      refine (HMS.out _ (HVSa.out _ HGEa.out)).mono ?_
      rintro e wp ⟨rfl, hg⟩
      have HGc := Lib.hid (grownN_trans HGEa.out hg)
      clear hg r0 r1
      cases hm : may M Nn P
      · have HR : Hid (slow M Nn (q + 1) P = y1) := by show _ = _; rw [HNX.out, hm]; simp
        clear hm
        go_wp2
        go_ret
        exact ⟨ret_i (by rw [HR.out]), grownN_trans HGa.out HGc.out⟩
      · have HR : Hid (slow M Nn (q + 1) P = max y1 y2) := by show _ = _; rw [HNX.out, hm]; simp
        have HIH2 := Lib.hid (HIH0.out hm)
        clear hm
        have HDb := Lib.hid (grown_drew (World.grownBy.refl wp none))
        have HPGb : Hid (∀ W, wp.grownBy W none → W.cell? ⟨w.heap.size, 0, none⟩ = some (.int .i64 (M : Int)) ∧ W.cell? ⟨w.heap.size, 1, none⟩ = some (.int .i64 (Nn : Int))) := fun W hg => HPGa.out W (grownN_trans HGc.out hg)
        have HVSb := Lib.hid (fun W (hg : wp.grownBy W none) => HVSa.out W (grownN_trans HGc.out hg))
        go_wp2_with fail
        go_region_held_law (fun w' => w'.cell? ⟨w.heap.size, 0, none⟩ = some (.int .i64 (M : Int)) ∧ w'.cell? ⟨w.heap.size, 1, none⟩ = some (.int .i64 (Nn : Int))) (first | exact HPGb.out _ HDb.out | exact HPGb.out _ (grown_drew (World.grownBy_alloc _ _ none)) | exact HPGb.out _ (grown_drew (grownN_trans (World.grownBy_alloc _ _ none) (World.grownBy_alloc _ _ none))) | exact HPGb.out _ HG2b.out | exact HPGb.out _ (grownN_trans HG2b.out (World.grownBy_alloc _ _ none)) | exact HPGb.out _ HG4b.out | exact HPGb.out _ HGEb.out) (first | (refine App.stepG_append (e := encB) _ (by rfl) _ _ _ (by rfl) wp.heap.size 4 i0 (.bool false) 1 Try.underlying44 hi hz0 hz1 hz2 (by rfl) _ [] (by rfl) (by first | exact (ownG_empty wp).grown (grown_drew (World.grownBy.refl _ none)) | exact (ownG_empty wp).grown (grown_drew (World.grownBy_alloc _ _ none)) | (have h := (ownG_empty (e := encB) (E := 4) (wp.alloc (.cells #[.bool true] 4 (0, 0)))).grown (grown_drew (World.grownBy.refl _ none)); simp only [World.size_alloc] at h; exact h.lower (Nat.le_succ _))) _ P (by rfl) (HVSb.out _ (by first | exact HDb.out | exact grown_drew (World.grownBy_alloc _ _ none) | exact grown_drew (grownN_trans (World.grownBy_alloc _ _ none) (World.grownBy_alloc _ _ none)) | exact HG2b.out | exact grownN_trans HG2b.out (World.grownBy_alloc _ _ none) | exact HG4b.out)) (by unfold maxLen; simp; omega) (by simp; omega) wp (by first | exact HDb.out | exact grown_drew (World.grownBy_alloc _ _ none) | exact grown_drew (grownN_trans (World.grownBy_alloc _ _ none) (World.grownBy_alloc _ _ none)) | exact HG2b.out | exact grownN_trans HG2b.out (World.grownBy_alloc _ _ none) | exact HG4b.out) rfl ?_; intro v2 w2 ho2 hgr2 hw2; rw [List.nil_append] at ho2; have HO2b := Lib.hid ho2; have HG2b := Lib.hid hw2; clear ho2 hw2) | (refine App.stepG_append (e := encB) _ (by rfl) _ _ _ (by rfl) wp.heap.size 4 i0 (.bool false) 1 Try.underlying44 hi hz0 hz1 hz2 (by rfl) _ P (by rfl) (by first | exact HO2b.out | exact HO2b.out.grown (World.grownBy_alloc _ _ _)) _ [true] (by rfl) (by first | exact seesG_one (e := encB) (E := 4) _ true #[.bool true] rfl trivial | (have h := seesG_one (e := encB) (E := 4) (wp.alloc (.cells #[] 4 (0, 0))) true #[.bool true] rfl trivial; simp only [World.size_alloc] at h; exact (h.grown (grown_drew (World.grownBy.refl _ none))).kept hgr2 (.inr (fun hh => absurd (Option.some.inj (show some (wp.heap.size + 1) = some wp.heap.size from hh)) (by omega)))) | exact ((seesG_one (e := encB) (E := 4) wp true #[.bool true] rfl trivial).grown (grown_drew (World.grownBy_alloc _ _ none))).kept hgr2 (.inr (fun hh => absurd (Option.some.inj (show some wp.heap.size = some (wp.heap.size + 1) from hh)) (by omega)))) (by unfold maxLen; simp; omega) (by simp; omega) wp (by first | exact HDb.out | exact grown_drew (World.grownBy_alloc _ _ none) | exact grown_drew (grownN_trans (World.grownBy_alloc _ _ none) (World.grownBy_alloc _ _ none)) | exact HG2b.out | exact grownN_trans HG2b.out (World.grownBy_alloc _ _ none) | exact HG4b.out) rfl ?_; intro v4 w4 ho4 hgr4 hw4; have HO4b := Lib.hid ho4; have HG4b := Lib.hid hw4; clear ho4 hgr4 hw4) | (have hzz := HG4b.out; clear hzz; go_at_call 73; refine (HIH2.out _ _ HO4b.out.sees).mono ?_; rintro e wEb ⟨rfl, hgE⟩; have HGEb := Lib.hid (grownN_trans HG4b.out hgE); clear hgE) | (have hzz := HGEb.out; clear hzz; go_at_call 102; refine (sMost_any _ _ _).mono ?_; rintro e wM ⟨rfl, rfl⟩))
        all_goals
          rw [HMO.out]
          go_wp2
          go_ret
          exact ⟨ret_i (by rw [HR.out]), grownN_trans HGa.out (grownN_trans HGc.out HGEb.out)⟩

set_option maxRecDepth 100000 in
set_option maxHeartbeats 4000000 in
theorem sSlow_any (w : World) (m n k : Int) (v : Value) (P : List Bool) (hm : (Lit.int .i64 m).wf = true) (hn : (Lit.int .i64 n).wf = true) (hv : SeesG encB w v P) (hP : P.length ≤ 2000000) :
    Calls Try.prog 35 #[.agg #[.int .i64 m, .int .i64 n], v, .int .i64 k] w fun e w' => e = .returned (.int .i64 (slOf m n P k)) ∧ w.grownBy w' none := by
  have g1 := World.grownBy_alloc w (.cells #[.int .i64 m, .int .i64 n] 49 (0, 0)) none
  have HG := Lib.hid g1
  have HB := Lib.hid (box_new w #[.int .i64 m, .int .i64 n] 49)
  have HV := Lib.hid (hv.grown g1)
  have r0 := HB.out.cell 0
  have r1 := HB.out.cell 1
  simp only [List.getElem?_toArray, List.getElem?_cons_succ, List.getElem?_cons_zero] at r0 r1
  have hir := sIsRule_any (w.alloc (.cells #[.int .i64 m, .int .i64 n] 49 (0, 0))) m n hm hn
  have HP := Lib.hid hP
  obtain ⟨va, vn, vc, rfl, _⟩ := hv.shape
  cases hr : isRule m n
  · rw [hr] at hir
    have HI := Lib.hid hir
    have HR : Hid (slOf m n P k = -1) := slOf_no1 hr
    clear g1 hir hr hv hP hm hn
    go_enter Try.func35, Try.ntmps35
    go_wp2_with fail
    refine HI.out.mono ?_
    rintro e w2 ⟨rfl, hg⟩
    have HG2 := Lib.hid (grownN_trans HG.out hg)
    clear hg
    go_wp2
    go_ret
    exact ⟨ret_i HR.out.symm, HG2.out⟩
  · rw [hr] at hir
    have HI := Lib.hid hir
    by_cases hk : 0 ≤ k ∧ k ≤ 3
    · have HR : Hid (slOf m n P k = slow m.toNat n.toNat k.toNat P) := slOf_yes hr hk
      obtain ⟨M, Nn, rfl, rfl, _⟩ := isRule_nat hr
      obtain ⟨q, rfl⟩ : ∃ q : Nat, k = (q : Int) := ⟨k.toNat, by omega⟩
      have HIN := Lib.hid (fun W => l1In_yes (n := ((q : Nat) : Int)) (l := 0) (h := 3) W (by omega))
      have hq3 : q ≤ 3 := by omega
      have HSL := Lib.hid (fun W hx => sSl_any M Nn hr (mu P q) q W (.slice va vn vc) P (Nat.le_refl _) hq3 hx (by have := mu_top P q; omega))
      clear g1 hir hr hv hP hm hn hk hq3
      go_enter Try.func35, Try.ntmps35
      go_wp2_with fail
      generalize w.alloc (.cells #[.int .i64 (M : Int), .int .i64 (Nn : Int)] 49 (0, 0)) = W1 at *
      refine HI.out.mono ?_
      rintro e w2 ⟨rfl, hg⟩
      have HG2 := Lib.hid (grownN_trans HG.out hg)
      have HB2 := Lib.hid (HB.out.grown hg)
      have HV2 := Lib.hid (HV.out.grown hg)
      clear hg r0 r1
      have r0 := HB2.out.cell 0
      have r1 := HB2.out.cell 1
      simp only [List.getElem?_toArray, List.getElem?_cons_succ, List.getElem?_cons_zero] at r0 r1
      go_wp2_with fail
      refine (HIN.out _).mono ?_
      rintro e w4 ⟨rfl, rfl⟩
      go_wp2_with fail
      refine (HSL.out _ HV2.out).mono ?_
      rintro e w5 ⟨rfl, hg⟩
      have HG5 := Lib.hid (grownN_trans HG2.out hg)
      clear hg r0 r1
      go_wp2
      go_ret
      exact ⟨ret_i (by rw [HR.out]; rfl), HG5.out⟩
    · have HR : Hid (slOf m n P k = -1) := slOf_no2 hk
      have HIN := Lib.hid (fun W => l1In_no (n := k) (l := 0) (h := 3) W hk)
      clear g1 hir hr hv hP hm hn hk
      go_enter Try.func35, Try.ntmps35
      go_wp2_with fail
      refine HI.out.mono ?_
      rintro e w2 ⟨rfl, hg⟩
      have HG2 := Lib.hid (grownN_trans HG.out hg)
      clear hg
      go_wp2_with fail
      refine (HIN.out _).mono ?_
      rintro e w4 ⟨rfl, rfl⟩
      go_wp2
      go_ret
      exact ⟨ret_i HR.out.symm, HG2.out⟩
end Go.Proofs.Ytbpiojnehomljaa.Sld

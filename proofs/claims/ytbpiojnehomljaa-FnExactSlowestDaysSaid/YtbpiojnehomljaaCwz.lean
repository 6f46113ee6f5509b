/- Contract of the model's CountWeathers. -/
import Derived.Test.YtbpiojnehomljaaCwy
namespace Go.Proofs.Ytbpiojnehomljaa.Cwx
open Go.RowKit Kit Rw Rg Stm StormS StI Hom Md

theorem info_b : (Try.prog.info? 4).map (fun i => (i.zero, i.size, i.bytes)) = some (some (.bool false), 1, 1) := by kernel_rfl
set_option maxRecDepth 100000 in
set_option maxHeartbeats 8000000 in
theorem sCw_any (M Nn : Nat) (hr : isRule (M : Int) (Nn : Int) = true) : ∀ (q : Nat), q ≤ 10 → ∀ (w : World) (v : Value) (P : List Bool), SeesG encB w v P → P.length + q ≤ 3000000 →
    Calls Try.prog 31 #[.agg #[.int .i64 (M : Int), .int .i64 (Nn : Int)], v, .int .i64 (q : Int)] w fun e w' => e = .returned (.int .i64 (cw M Nn q P)) ∧ w.grownBy w' none := by
  have hn10 : Nn ≤ 10 := by unfold isRule at hr; simp at hr; omega
  have hmw : (Lit.int .i64 (M : Int)).wf = true := i64_mk (by unfold isRule at hr; simp at hr; omega)
  have hnw : (Lit.int .i64 (Nn : Int)).wf = true := i64_mk (by omega)
  obtain ⟨i0, hi, hz0, hz1, hz2⟩ := info_parts info_b
  intro q
  induction q with
  | zero =>
    intro hq w v P hv hP
    have g1 := World.grownBy_alloc w (.cells #[.int .i64 (M : Int), .int .i64 (Nn : Int)] 49 (0, 0)) none
    have HG := Lib.hid g1
    have HB := Lib.hid (box_new w #[.int .i64 (M : Int), .int .i64 (Nn : Int)] 49)
    have r0 := HB.out.cell 0
    have r1 := HB.out.cell 1
    simp only [List.getElem?_toArray, List.getElem?_cons_succ, List.getElem?_cons_zero] at r0 r1
    have hir := sIsRule_any (w.alloc (.cells #[.int .i64 (M : Int), .int .i64 (Nn : Int)] 49 (0, 0))) M Nn hmw hnw
    rw [hr] at hir
    have HI := Lib.hid hir
    have HIN := Lib.hid (fun W => l1In_yes (n := ((0 : Nat) : Int)) (l := 0) (h := 10) W (by constructor <;> decide))
    obtain ⟨va, vn, vc, rfl, _⟩ := hv.shape
    clear g1 hir hv hP
    go_enter Try.func31, Try.ntmps31
    go_wp2_with fail
    refine HI.out.mono ?_
    rintro e w2 ⟨rfl, hg⟩
    have HG2 := Lib.hid (grownN_trans HG.out hg)
    clear hg
    go_wp2_with fail
    refine (HIN.out _).mono ?_
    rintro e w4 ⟨rfl, rfl⟩
    go_wp2
    go_ret
    exact ⟨rfl, HG2.out⟩
  | succ q ih =>
    intro hq w v P hv hP
    have g1 := World.grownBy_alloc w (.cells #[.int .i64 (M : Int), .int .i64 (Nn : Int)] 49 (0, 0)) none
    have HG := Lib.hid g1
    have HB := Lib.hid (box_new w #[.int .i64 (M : Int), .int .i64 (Nn : Int)] 49)
    have HV := Lib.hid (hv.grown g1)
    have r0 := HB.out.cell 0
    have r1 := HB.out.cell 1
    simp only [List.getElem?_toArray, List.getElem?_cons_succ, List.getElem?_cons_zero] at r0 r1
    have hir := sIsRule_any (w.alloc (.cells #[.int .i64 (M : Int), .int .i64 (Nn : Int)] 49 (0, 0))) M Nn hmw hnw
    rw [hr] at hir
    have HI := Lib.hid hir
    have HIN := Lib.hid (fun W => l1In_yes (n := ((q + 1 : Nat) : Int)) (l := 0) (h := 10) W (by omega))
    have hms := mayStorm_may (L := P) hr
    have hMS := fun W hx => sMayStorm_any W (M : Int) (Nn : Int) hmw hnw v P hx
    rw [hms] at hMS
    have HMS := Lib.hid hMS
    have HIH := Lib.hid (fun W (u : Value) (s : Bool) (hu : SeesG encB W u (P ++ [s])) => ih (by omega) W u (P ++ [s]) hu (by simp; omega))
    have q1 : IntKind.i64.wrap (((q + 1 : Nat) : Int) - 1) = (q : Int) := (IntWalk.i64_in _ (by omega)).trans (by omega)
    have hz : ((((q + 1 : Nat) : Int)) == 0) = false := by first | (simp; done) | (simp; omega)
    have hPL : P.length ≤ 3000000 := by omega
    have hb1 := cw_top (m := M) (n := Nn) (show q ≤ 10 by omega) (P ++ [false])
    have hb2 := cw_top (m := M) (n := Nn) (show q ≤ 10 by omega) (P ++ [true])
    obtain ⟨x1, hx1⟩ : ∃ x, x = cw M Nn q (P ++ [false]) := ⟨_, rfl⟩
    obtain ⟨x2, hx2⟩ : ∃ x, x = cw M Nn q (P ++ [true]) := ⟨_, rfl⟩
    rw [← hx1] at hb1
    rw [← hx2] at hb2
    have q2 : IntKind.i64.wrap ((x1 : Int) + (x2 : Int)) = (x1 : Int) + (x2 : Int) := IntWalk.i64_in _ (by omega)
    have HX1 := Lib.hid hx1
    have HX2 := Lib.hid hx2
    obtain ⟨va, vn, vc, rfl, _⟩ := hv.shape
    have HCW : Hid (cw M Nn (q + 1) P = x1 + if may M Nn P = true then x2 else 0) := by show _ = _; rw [cw, hx1, hx2]
    obtain ⟨N1, hN1⟩ : ∃ z : Int, z = ((q + 1 : Nat) : Int) := ⟨_, rfl⟩
    rw [← hN1] at HIN q1 hz ⊢
    clear g1 hir hv hP hms hMS ih hx1 hx2 hb1 hb2 hN1
    go_enter Try.func31, Try.ntmps31
    go_wp2_with fail
    generalize w.alloc (.cells #[.int .i64 (M : Int), .int .i64 (Nn : Int)] 49 (0, 0)) = W1 at *
    refine HI.out.mono ?_
    rintro e wq ⟨rfl, hg⟩
    have HGa := Lib.hid (grownN_trans HG.out hg)
    have HBa := Lib.hid (HB.out.grown hg)
    have HVa := Lib.hid (HV.out.grown hg)
    clear hg r0 r1
    go_wp2_with fail
    refine (HIN.out _).mono ?_
    rintro e wz ⟨rfl, rfl⟩
    have HDa := Lib.hid (grown_drew (World.grownBy.refl wq none))
    have HPGa : Hid (∀ W, wq.grownBy W none → W.cell? ⟨w.heap.size, 0, none⟩ = some (.int .i64 (M : Int)) ∧ W.cell? ⟨w.heap.size, 1, none⟩ = some (.int .i64 (Nn : Int))) := fun W hg => ⟨(HBa.out.grown hg).cell 0, (HBa.out.grown hg).cell 1⟩
    have HVSa := Lib.hid (fun W (hg : wq.grownBy W none) => HVa.out.grown hg)
    go_wp2_with fail
    go_region_held_law (fun w' => w'.cell? ⟨w.heap.size, 0, none⟩ = some (.int .i64 (M : Int)) ∧ w'.cell? ⟨w.heap.size, 1, none⟩ = some (.int .i64 (Nn : Int))) (first | exact HPGa.out _ HDa.out | exact HPGa.out _ (grown_drew (World.grownBy_alloc _ _ none)) | exact HPGa.out _ (grown_drew (grownN_trans (World.grownBy_alloc _ _ none) (World.grownBy_alloc _ _ none))) | exact HPGa.out _ HG2a.out | exact HPGa.out _ (grownN_trans HG2a.out (World.grownBy_alloc _ _ none)) | exact HPGa.out _ HG4a.out | exact HPGa.out _ HGEa.out) (first | (refine App.stepG_append (e := encB) _ (by rfl) _ _ _ (by rfl) wq.heap.size 4 i0 (.bool false) 1 Try.underlying44 hi hz0 hz1 hz2 (by rfl) _ [] (by rfl) (by first | exact (ownG_empty wq).grown (grown_drew (World.grownBy.refl _ none)) | exact (ownG_empty wq).grown (grown_drew (World.grownBy_alloc _ _ none)) | (have h := (ownG_empty (e := encB) (E := 4) (wq.alloc (.cells #[.bool false] 4 (0, 0)))).grown (grown_drew (World.grownBy.refl _ none)); simp only [World.size_alloc] at h; exact h.lower (Nat.le_succ _))) _ P (by rfl) (HVSa.out _ (by first | exact HDa.out | exact grown_drew (World.grownBy_alloc _ _ none) | exact grown_drew (grownN_trans (World.grownBy_alloc _ _ none) (World.grownBy_alloc _ _ none)) | exact HG2a.out | exact grownN_trans HG2a.out (World.grownBy_alloc _ _ none) | exact HG4a.out)) (by unfold maxLen; simp; omega) (by simp; omega) wq (by first | exact HDa.out | exact grown_drew (World.grownBy_alloc _ _ none) | exact grown_drew (grownN_trans (World.grownBy_alloc _ _ none) (World.grownBy_alloc _ _ none)) | exact HG2a.out | exact grownN_trans HG2a.out (World.grownBy_alloc _ _ none) | exact HG4a.out) rfl ?_; intro v2 w2 ho2 hgr2 hw2; rw [List.nil_append] at ho2; have HO2a := Lib.hid ho2; have HG2a := Lib.hid hw2; clear ho2 hw2) | (refine App.stepG_append (e := encB) _ (by rfl) _ _ _ (by rfl) wq.heap.size 4 i0 (.bool false) 1 Try.underlying44 hi hz0 hz1 hz2 (by rfl) _ P (by rfl) (by first | exact HO2a.out | exact HO2a.out.grown (World.grownBy_alloc _ _ _)) _ [false] (by rfl) (by first | exact seesG_one (e := encB) (E := 4) _ false #[.bool false] rfl trivial | (have h := seesG_one (e := encB) (E := 4) (wq.alloc (.cells #[] 4 (0, 0))) false #[.bool false] rfl trivial; simp only [World.size_alloc] at h; exact (h.grown (grown_drew (World.grownBy.refl _ none))).kept hgr2 (.inr (fun hh => absurd (Option.some.inj (show some (wq.heap.size + 1) = some wq.heap.size from hh)) (by omega)))) | exact ((seesG_one (e := encB) (E := 4) wq false #[.bool false] rfl trivial).grown (grown_drew (World.grownBy_alloc _ _ none))).kept hgr2 (.inr (fun hh => absurd (Option.some.inj (show some wq.heap.size = some (wq.heap.size + 1) from hh)) (by omega)))) (by unfold maxLen; simp; omega) (by simp; omega) wq (by first | exact HDa.out | exact grown_drew (World.grownBy_alloc _ _ none) | exact grown_drew (grownN_trans (World.grownBy_alloc _ _ none) (World.grownBy_alloc _ _ none)) | exact HG2a.out | exact grownN_trans HG2a.out (World.grownBy_alloc _ _ none) | exact HG4a.out) rfl ?_; intro v4 w4 ho4 hgr4 hw4; have HO4a := Lib.hid ho4; have HG4a := Lib.hid hw4; clear ho4 hgr4 hw4) | (have hzz := HG4a.out; clear hzz; go_at_call 31; refine (HIH.out _ _ false HO4a.out.sees).mono ?_; rintro e wEa ⟨rfl, hgE⟩; have HGEa := Lib.hid (grownN_trans HG4a.out hgE); clear hgE))
    all_goals
      have r0 := (HPGa.out _ HGEa.out).1
      have r1 := (HPGa.out _ HGEa.out).2
      go_wp2_with fail
      refine (HMS.out _ (HVSa.out _ HGEa.out)).mono ?_
      rintro e wp ⟨rfl, hg⟩
      rw [← HX1.out]
      have HGc := Lib.hid (grownN_trans HGEa.out hg)
      clear hg r0 r1
      cases hm : may M Nn P
      · have HR : Hid (cw M Nn (q + 1) P = x1) := by show _ = _; rw [HCW.out, hm]; simp
        clear hm
        go_wp2
        go_ret
        exact ⟨ret_i (by rw [HR.out]), grownN_trans HGa.out HGc.out⟩
      · have HR : Hid (cw M Nn (q + 1) P = x1 + x2) := by show _ = _; rw [HCW.out, hm]; simp
        clear hm
        have HDb := Lib.hid (grown_drew (World.grownBy.refl wp none))
        have HPGb : Hid (∀ W, wp.grownBy W none → W.cell? ⟨w.heap.size, 0, none⟩ = some (.int .i64 (M : Int)) ∧ W.cell? ⟨w.heap.size, 1, none⟩ = some (.int .i64 (Nn : Int))) := fun W hg => HPGa.out W (grownN_trans HGc.out hg)
        have HVSb := Lib.hid (fun W (hg : wp.grownBy W none) => HVSa.out W (grownN_trans HGc.out hg))
        go_wp2_with fail
        go_region_held_law (fun w' => w'.cell? ⟨w.heap.size, 0, none⟩ = some (.int .i64 (M : Int)) ∧ w'.cell? ⟨w.heap.size, 1, none⟩ = some (.int .i64 (Nn : Int))) (first | exact HPGb.out _ HDb.out | exact HPGb.out _ (grown_drew (World.grownBy_alloc _ _ none)) | exact HPGb.out _ (grown_drew (grownN_trans (World.grownBy_alloc _ _ none) (World.grownBy_alloc _ _ none))) | exact HPGb.out _ HG2b.out | exact HPGb.out _ (grownN_trans HG2b.out (World.grownBy_alloc _ _ none)) | exact HPGb.out _ HG4b.out | exact HPGb.out _ HGEb.out) (first | (refine App.stepG_append (e := encB) _ (by rfl) _ _ _ (by rfl) wp.heap.size 4 i0 (.bool false) 1 Try.underlying44 hi hz0 hz1 hz2 (by rfl) _ [] (by rfl) (by first | exact (ownG_empty wp).grown (grown_drew (World.grownBy.refl _ none)) | exact (ownG_empty wp).grown (grown_drew (World.grownBy_alloc _ _ none)) | (have h := (ownG_empty (e := encB) (E := 4) (wp.alloc (.cells #[.bool true] 4 (0, 0)))).grown (grown_drew (World.grownBy.refl _ none)); simp only [World.size_alloc] at h; exact h.lower (Nat.le_succ _))) _ P (by rfl) (HVSb.out _ (by first | exact HDb.out | exact grown_drew (World.grownBy_alloc _ _ none) | exact grown_drew (grownN_trans (World.grownBy_alloc _ _ none) (World.grownBy_alloc _ _ none)) | exact HG2b.out | exact grownN_trans HG2b.out (World.grownBy_alloc _ _ none) | exact HG4b.out)) (by unfold maxLen; simp; omega) (by simp; omega) wp (by first | exact HDb.out | exact grown_drew (World.grownBy_alloc _ _ none) | exact grown_drew (grownN_trans (World.grownBy_alloc _ _ none) (World.grownBy_alloc _ _ none)) | exact HG2b.out | exact grownN_trans HG2b.out (World.grownBy_alloc _ _ none) | exact HG4b.out) rfl ?_; intro v2 w2 ho2 hgr2 hw2; rw [List.nil_append] at ho2; have HO2b := Lib.hid ho2; have HG2b := Lib.hid hw2; clear ho2 hw2) | (refine App.stepG_append (e := encB) _ (by rfl) _ _ _ (by rfl) wp.heap.size 4 i0 (.bool false) 1 Try.underlying44 hi hz0 hz1 hz2 (by rfl) _ P (by rfl) (by first | exact HO2b.out | exact HO2b.out.grown (World.grownBy_alloc _ _ _)) _ [true] (by rfl) (by first | exact seesG_one (e := encB) (E := 4) _ true #[.bool true] rfl trivial | (have h := seesG_one (e := encB) (E := 4) (wp.alloc (.cells #[] 4 (0, 0))) true #[.bool true] rfl trivial; simp only [World.size_alloc] at h; exact (h.grown (grown_drew (World.grownBy.refl _ none))).kept hgr2 (.inr (fun hh => absurd (Option.some.inj (show some (wp.heap.size + 1) = some wp.heap.size from hh)) (by omega)))) | exact ((seesG_one (e := encB) (E := 4) wp true #[.bool true] rfl trivial).grown (grown_drew (World.grownBy_alloc _ _ none))).kept hgr2 (.inr (fun hh => absurd (Option.some.inj (show some wp.heap.size = some (wp.heap.size + 1) from hh)) (by omega)))) (by unfold maxLen; simp; omega) (by simp; omega) wp (by first | exact HDb.out | exact grown_drew (World.grownBy_alloc _ _ none) | exact grown_drew (grownN_trans (World.grownBy_alloc _ _ none) (World.grownBy_alloc _ _ none)) | exact HG2b.out | exact grownN_trans HG2b.out (World.grownBy_alloc _ _ none) | exact HG4b.out) rfl ?_; intro v4 w4 ho4 hgr4 hw4; have HO4b := Lib.hid ho4; have HG4b := Lib.hid hw4; clear ho4 hgr4 hw4) | (have hzz := HG4b.out; clear hzz; go_at_call 31; refine (HIH.out _ _ true HO4b.out.sees).mono ?_; rintro e wEb ⟨rfl, hgE⟩; have HGEb := Lib.hid (grownN_trans HG4b.out hgE); clear hgE))
        all_goals
          rw [← HX2.out]
          go_wp2
          go_ret
          exact ⟨ret_i (by rw [HR.out]; first | rfl | (simp; done) | omega), grownN_trans HGa.out (grownN_trans HGc.out HGEb.out)⟩

set_option maxRecDepth 100000 in
set_option maxHeartbeats 4000000 in
theorem sCount_any (w : World) (m n k : Int) (v : Value) (P : List Bool) (hm : (Lit.int .i64 m).wf = true) (hn : (Lit.int .i64 n).wf = true) (hv : SeesG encB w v P) (hP : P.length ≤ 2000000) :
    Calls Try.prog 31 #[.agg #[.int .i64 m, .int .i64 n], v, .int .i64 k] w fun e w' => e = .returned (.int .i64 (cwOf m n P k)) ∧ w.grownBy w' none := by
  by_cases hboth : isRule m n = true ∧ (0 ≤ k ∧ k ≤ 10)
  · obtain ⟨hr, hk⟩ := hboth
    obtain ⟨M, Nn, rfl, rfl, _⟩ := isRule_nat hr
    obtain ⟨q, rfl⟩ : ∃ q : Nat, k = (q : Int) := ⟨k.toNat, by omega⟩
    rw [cwOf_yes hr hk]
    exact sCw_any M Nn hr q (by omega) w v P hv (by omega)
  · have g1 := World.grownBy_alloc w (.cells #[.int .i64 m, .int .i64 n] 49 (0, 0)) none
    have HG := Lib.hid g1
    have HB := Lib.hid (box_new w #[.int .i64 m, .int .i64 n] 49)
    have r0 := HB.out.cell 0
    have r1 := HB.out.cell 1
    simp only [List.getElem?_toArray, List.getElem?_cons_succ, List.getElem?_cons_zero] at r0 r1
    have hir := sIsRule_any (w.alloc (.cells #[.int .i64 m, .int .i64 n] 49 (0, 0))) m n hm hn
    obtain ⟨va, vn, vc, rfl, _⟩ := hv.shape
    cases hr : isRule m n
    · rw [hr] at hir
      have HI := Lib.hid hir
      have HR : Hid (cwOf m n P k = 0) := cwOf_no1 hr
      clear g1 hir hr hv hP hm hn hboth
      go_enter Try.func31, Try.ntmps31
      go_wp2_with fail
      refine HI.out.mono ?_
      rintro e w2 ⟨rfl, hg⟩
      have HG2 := Lib.hid (grownN_trans HG.out hg)
      clear hg
      go_wp2
      go_ret
      exact ⟨ret_i HR.out.symm, HG2.out⟩
    · rw [hr] at hir
      have HI := Lib.hid hir
      have hk : ¬ (0 ≤ k ∧ k ≤ 10) := fun h => hboth ⟨hr, h⟩
      have HR : Hid (cwOf m n P k = 0) := cwOf_no2 hk
      have HIN := Lib.hid (fun W => l1In_no (n := k) (l := 0) (h := 10) W hk)
      clear g1 hir hr hv hP hm hn hboth hk
      go_enter Try.func31, Try.ntmps31
      go_wp2_with fail
      refine HI.out.mono ?_
      rintro e w2 ⟨rfl, hg⟩
      have HG2 := Lib.hid (grownN_trans HG.out hg)
      clear hg
      go_wp2_with fail
      refine (HIN.out _).mono ?_
      rintro e w4 ⟨rfl, rfl⟩
      go_wp2
      go_ret
      exact ⟨ret_i HR.out.symm, HG2.out⟩
end Go.Proofs.Ytbpiojnehomljaa.Cwx

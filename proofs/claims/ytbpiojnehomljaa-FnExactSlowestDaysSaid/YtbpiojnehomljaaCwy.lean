/- Contracts of CountWeathers, of the program and of its model. -/
import Derived.Test.YtbpiojnehomljaaCwx
import Derived.Deep.RegionHeldLaw
namespace Go.Proofs.Ytbpiojnehomljaa.Cwx
open Go.RowKit Kit Rw Rg Stm StormS StI Hom Md

theorem isRule_nat {m n : Int} (h : isRule m n = true) : ∃ M Nn : Nat, m = (M : Int) ∧ n = (Nn : Int) ∧ Nn ≤ 10 := by
  unfold isRule at h
  simp only [Bool.and_eq_true, decide_eq_true_eq] at h
  exact ⟨m.toNat, n.toNat, by omega, by omega, by omega⟩
/-- A row that was there is there still, whatever is written into what has come since. -/
theorem old_row {w W' W : World} {v : Value} {P : List Bool} {C : Nat} (h : SeesG encB w v P) (hg : w.grownBy W' none) (hC : w.heap.size ≤ C) (hW : W'.grownBy W (some C)) : SeesG encB W v P := by
  have h' := h
  obtain ⟨a, c, rfl, h1, h2, h3, h4, h5⟩ := h
  rcases h5 with rfl | ⟨b, o, rfl, h6⟩
  · exact ⟨a, c, rfl, h1, h2, h3, h4, .inl rfl⟩
  · by_cases h0 : P = []
    · subst h0; exact ⟨_, c, rfl, h1, h2, h3, h4, .inl rfl⟩
    · obtain ⟨b', o', e, hlt, _⟩ := h'.at_row (List.length_pos_iff.2 h0)
      injection e with e
      injection e with e1 e2
      subst e1
      exact (h'.grown hg).kept hW (.inr (by intro hh; have hh := Option.some.inj (show some b = some C from hh); omega))

set_option maxRecDepth 100000 in
set_option maxHeartbeats 4000000 in
theorem iCount_any (w : World) (m n k : Int) (v : Value) (P : List Bool) (hm : (Lit.int .i64 m).wf = true) (hn : (Lit.int .i64 n).wf = true) (hv : SeesG encB w v P) (hP : P.length ≤ 2000000) :
    Calls Try.prog 33 #[.agg #[.int .i64 m, .int .i64 n], v, .int .i64 k] w fun e w' => e = .returned (.int .i64 (cwOf m n P k)) ∧ w.grownBy w' none := by
  have g1 := World.grownBy_alloc w (.cells #[.int .i64 m, .int .i64 n] 49 (0, 0)) none
  have g2 := World.grownBy_alloc (w.alloc (.cells #[.int .i64 m, .int .i64 n] 49 (0, 0))) (.cells #[.int .i64 k] 3 (0, 0)) none
  have g3 := World.grownBy_alloc ((w.alloc (.cells #[.int .i64 m, .int .i64 n] 49 (0, 0))).alloc (.cells #[.int .i64 k] 3 (0, 0))) (.cells #[.int .i64 0] 3 (0, 0)) none
  have b1 := ((box_new w #[.int .i64 m, .int .i64 n] 49).grown g2).grown g3
  have b2 := (box_new (w.alloc (.cells #[.int .i64 m, .int .i64 n] 49 (0, 0))) #[.int .i64 k] 3).grown g3
  have b3 := box_new ((w.alloc (.cells #[.int .i64 m, .int .i64 n] 49 (0, 0))).alloc (.cells #[.int .i64 k] 3 (0, 0))) #[.int .i64 0] 3
  simp only [World.size_alloc] at b2 b3
  have gg := grownN_trans (grownN_trans g1 g2) g3
  have HG := Lib.hid gg
  have HB1 := Lib.hid b1
  have HB2 := Lib.hid b2
  have HB3 := Lib.hid b3
  have HV := Lib.hid (hv.grown gg)
  have r0 := b1.cell 0
  have r1 := b1.cell 1
  have n0 := b2.cell 0
  have k0 := b3.cell 0
  simp only [List.getElem?_toArray, List.getElem?_cons_succ, List.getElem?_cons_zero] at r0 r1 n0 k0
  have hir := iIsRule_any (((w.alloc (.cells #[.int .i64 m, .int .i64 n] 49 (0, 0))).alloc (.cells #[.int .i64 k] 3 (0, 0))).alloc (.cells #[.int .i64 0] 3 (0, 0))) m n hm hn
  have HVO := Lib.hid (fun (W W' : World) (hW : w.grownBy W' none) (hC : W'.grownBy W (some (w.heap.size + 1 + 1))) => old_row (W := W) (C := w.heap.size + 1 + 1) hv hW (by omega) hC)
  have HP := Lib.hid hP
  obtain ⟨va, vn, vc, rfl, _⟩ := hv.shape
  cases hr : isRule m n
  · rw [hr] at hir
    have HI := Lib.hid hir
    have HR : Hid (cwOf m n P k = 0) := cwOf_no1 hr
    clear g1 g2 g3 b1 b2 b3 gg hir hr hP hv hm hn
    go_enter Try.func33, Try.ntmps33
    go_wp2_with fail
    generalize ((w.alloc (.cells #[.int .i64 m, .int .i64 n] 49 (0, 0))).alloc (.cells #[.int .i64 k] 3 (0, 0))).alloc (.cells #[.int .i64 0] 3 (0, 0)) = W3 at *
    refine HI.out.mono ?_
    rintro e w2 ⟨rfl, hg⟩
    have HG2 := Lib.hid (grownN_trans HG.out hg)
    have k0 := (HB3.out.grown hg).cell 0
    simp only [List.getElem?_toArray, List.getElem?_cons_zero] at k0
    clear hg
    go_wp2
    go_ret
    exact ⟨ret_i HR.out.symm, HG2.out⟩
  · rw [hr] at hir
    have HI := Lib.hid hir
    have HRR := Lib.hid hr
    obtain ⟨M, Nn, rfl, rfl, hn10⟩ := isRule_nat hr
    by_cases hk : 0 ≤ k ∧ k ≤ 10
    · have HR : Hid (cwOf M Nn P k = cw M Nn k.toNat P) := by show _ = _; rw [cwOf_yes hr hk]; rfl
      obtain ⟨kk, rfl⟩ : ∃ kk : Nat, k = (kk : Int) := ⟨k.toNat, by omega⟩
      have hin : decide ((0 : Int) ≤ (kk : Int) ∧ (kk : Int) ≤ 10) = true := decide_eq_true hk
      have hrg := fun W => inRange_any ((kk : Nat) : Int) 0 10 W
      rw [hin] at hrg
      have HRG := Lib.hid hrg
      have HKL := Lib.hid (show kk ≤ 10 by omega)
      clear g1 g2 g3 b1 b2 b3 gg hir hr hP hv hm hn hk hin hrg hn10
      go_enter Try.func33, Try.ntmps33
      go_wp2_with fail
      generalize ((w.alloc (.cells #[.int .i64 (M : Int), .int .i64 (Nn : Int)] 49 (0, 0))).alloc (.cells #[.int .i64 ((kk : Nat) : Int)] 3 (0, 0))).alloc (.cells #[.int .i64 0] 3 (0, 0)) = W3 at *
      refine HI.out.mono ?_
      rintro e w2 ⟨rfl, hg⟩
      have HG2 := Lib.hid (grownN_trans HG.out hg)
      have HB1' := Lib.hid (HB1.out.grown hg)
      have HB2' := Lib.hid (HB2.out.grown hg)
      have HB3' := Lib.hid (HB3.out.grown hg)
      have HV' := Lib.hid (HV.out.grown hg)
      clear hg r0 r1 n0 k0
      have r0 := HB1'.out.cell 0
      have r1 := HB1'.out.cell 1
      have n0 := HB2'.out.cell 0
      simp only [List.getElem?_toArray, List.getElem?_cons_succ, List.getElem?_cons_zero] at r0 r1 n0
      go_wp2_with fail
      refine (HRG.out _).mono ?_
      rintro e w4 ⟨rfl, rfl⟩
      go_wp2_with fail
      refine (each_any w2 M Nn HRR.out (w.heap.size + 1) (w.heap.size + 1 + 1) kk _ P HKL.out (fun W hW => HVO.out W w2 HG2.out hW) HP.out HB2'.out HB3'.out (by omega)).mono ?_
      rintro e w5 ⟨rfl, hb, hg⟩
      have k0 := hb.cell 0
      simp only [List.getElem?_toArray, List.getElem?_cons_zero] at k0
      have HG5 := Lib.hid (grown_new HG2.out hg (fun c hc => by injection hc; omega))
      clear hb hg r0 r1 n0
      go_wp2
      go_ret
      exact ⟨ret_i (by rw [HR.out]; rfl), HG5.out⟩
    · have HR : Hid (cwOf M Nn P k = 0) := cwOf_no2 hk
      have hin : decide ((0 : Int) ≤ k ∧ k ≤ 10) = false := decide_eq_false hk
      have hrg := fun W => inRange_any k 0 10 W
      rw [hin] at hrg
      have HRG := Lib.hid hrg
      clear g1 g2 g3 b1 b2 b3 gg hir hr hP hv hm hn hk hin hrg hn10
      go_enter Try.func33, Try.ntmps33
      go_wp2_with fail
      generalize ((w.alloc (.cells #[.int .i64 (M : Int), .int .i64 (Nn : Int)] 49 (0, 0))).alloc (.cells #[.int .i64 k] 3 (0, 0))).alloc (.cells #[.int .i64 0] 3 (0, 0)) = W3 at *
      refine HI.out.mono ?_
      rintro e w2 ⟨rfl, hg⟩
      have HG2 := Lib.hid (grownN_trans HG.out hg)
      have HB2' := Lib.hid (HB2.out.grown hg)
      have HB3' := Lib.hid (HB3.out.grown hg)
      clear hg r0 r1 n0 k0
      have n0 := HB2'.out.cell 0
      have k0 := HB3'.out.cell 0
      simp only [List.getElem?_toArray, List.getElem?_cons_succ, List.getElem?_cons_zero] at n0 k0
      go_wp2_with fail
      refine (HRG.out _).mono ?_
      rintro e w4 ⟨rfl, rfl⟩
      go_wp2
      go_ret
      exact ⟨ret_i HR.out.symm, HG2.out⟩
end Go.Proofs.Ytbpiojnehomljaa.Cwx

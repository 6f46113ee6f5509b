/- Contract of the program's SlowestDays. -/
import Derived.Test.YtbpiojnehomljaaSlx
namespace Go.Proofs.Ytbpiojnehomljaa.Sld
open Go.RowKit Kit Rw Rg Stm StormS StI Hom Md Mn Cwx

set_option maxRecDepth 100000 in
set_option maxHeartbeats 4000000 in
theorem iSlow_any (w : World) (m n k : Int) (v : Value) (P : List Bool) (hm : (Lit.int .i64 m).wf = true) (hn : (Lit.int .i64 n).wf = true) (hv : SeesG encB w v P) (hP : P.length ≤ 2000000) :
    Calls Try.prog 36 #[.agg #[.int .i64 m, .int .i64 n], v, .int .i64 k] w fun e w' => e = .returned (.int .i64 (slOf m n P k)) ∧ w.grownBy w' none := by
  have g1 := World.grownBy_alloc w (.cells #[.int .i64 m, .int .i64 n] 49 (0, 0)) none
  have g2 := World.grownBy_alloc (w.alloc (.cells #[.int .i64 m, .int .i64 n] 49 (0, 0))) (.cells #[.int .i64 k] 3 (0, 0)) none
  have b1 := (box_new w #[.int .i64 m, .int .i64 n] 49).grown g2
  have b2 := box_new (w.alloc (.cells #[.int .i64 m, .int .i64 n] 49 (0, 0))) #[.int .i64 k] 3
  have hs2 : ((w.alloc (.cells #[.int .i64 m, .int .i64 n] 49 (0, 0))).alloc (.cells #[.int .i64 k] 3 (0, 0))).heap.size = w.heap.size + 1 + 1 := by simp only [World.size_alloc]
  simp only [World.size_alloc] at b2
  have gg := grownN_trans g1 g2
  have HG := Lib.hid gg
  have HB1 := Lib.hid b1
  have HB2 := Lib.hid b2
  have HS2 := Lib.hid hs2
  have HV := Lib.hid (hv.grown gg)
  have r0 := b1.cell 0
  have r1 := b1.cell 1
  have n0 := b2.cell 0
  simp only [List.getElem?_toArray, List.getElem?_cons_succ, List.getElem?_cons_zero] at r0 r1 n0
  have hir := iIsRule_any ((w.alloc (.cells #[.int .i64 m, .int .i64 n] 49 (0, 0))).alloc (.cells #[.int .i64 k] 3 (0, 0))) m n hm hn
  have HVO := Lib.hid (fun (W W' : World) (C : Nat) (hC0 : w.heap.size ≤ C) (hW : w.grownBy W' none) (hC : W'.grownBy W (some C)) => old_row (W := W) (C := C) hv hW hC0 hC)
  have HP := Lib.hid hP
  obtain ⟨va, vn, vc, rfl, _⟩ := hv.shape
  cases hr : isRule m n
  · rw [hr] at hir
    have HI := Lib.hid hir
    have HR : Hid (slOf m n P k = -1) := slOf_no1 hr
    clear g1 g2 b1 b2 gg hir hr hP hv hm hn hs2
    go_enter Try.func36, Try.ntmps36
    go_wp2_with fail
    generalize (w.alloc (.cells #[.int .i64 m, .int .i64 n] 49 (0, 0))).alloc (.cells #[.int .i64 k] 3 (0, 0)) = W3 at *
    refine HI.out.mono ?_
    rintro e w2 ⟨rfl, hg⟩
    have HG2 := Lib.hid (grownN_trans HG.out hg)
    clear hg
    go_wp2
    go_ret
    exact ⟨ret_i HR.out.symm, HG2.out⟩
  · rw [hr] at hir
    have HI := Lib.hid hir
    have HRR := Lib.hid hr
    obtain ⟨M, Nn, rfl, rfl, hn10⟩ := isRule_nat hr
    by_cases hk : 0 ≤ k ∧ k ≤ 3
    · have HR : Hid (slOf M Nn P k = slow M Nn k.toNat P) := by show _ = _; rw [slOf_yes hr hk]; rfl
      obtain ⟨kk, rfl⟩ : ∃ kk : Nat, k = (kk : Int) := ⟨k.toNat, by omega⟩
      have hin : decide ((0 : Int) ≤ (kk : Int) ∧ (kk : Int) ≤ 3) = true := decide_eq_true hk
      have hrg := fun W => inRange_any ((kk : Nat) : Int) 0 3 W
      rw [hin] at hrg
      have HRG := Lib.hid hrg
      have HKL := Lib.hid (show kk ≤ 3 by omega)
      clear g1 g2 b1 b2 gg hir hr hP hv hm hn hk hin hrg hn10 hs2
      go_enter Try.func36, Try.ntmps36
      go_wp2_with fail
      generalize (w.alloc (.cells #[.int .i64 (M : Int), .int .i64 (Nn : Int)] 49 (0, 0))).alloc (.cells #[.int .i64 ((kk : Nat) : Int)] 3 (0, 0)) = W3 at *
      refine HI.out.mono ?_
      rintro e w2 ⟨rfl, hg⟩
      have HG2 := Lib.hid (grownN_trans HG.out hg)
      have HB1' := Lib.hid (HB1.out.grown hg)
      have HB2' := Lib.hid (HB2.out.grown hg)
      have HLE : Hid (w.heap.size + 1 + 1 ≤ w2.heap.size) := by show _ ≤ _; have h1 := hg.size; have h2 := HS2.out; omega
      clear hg r0 r1 n0
      have n0 := HB2'.out.cell 0
      simp only [List.getElem?_toArray, List.getElem?_cons_zero] at n0
      go_wp2_with fail
      refine (HRG.out _).mono ?_
      rintro e w4 ⟨rfl, rfl⟩
      clear n0
      have gA := World.grownBy_alloc w2 (.cells #[.int .i64 0] 3 (0, 0)) none
      have bA := box_new w2 #[.int .i64 0] 3
      have HB1A := Lib.hid (HB1'.out.grown gA)
      have HB2A := Lib.hid (HB2'.out.grown gA)
      have HBA := Lib.hid bA
      have HGA := Lib.hid (grownN_trans HG2.out gA)
      have r0 := HB1A.out.cell 0
      have r1 := HB1A.out.cell 1
      simp only [List.getElem?_toArray, List.getElem?_cons_succ, List.getElem?_cons_zero] at r0 r1
      clear gA bA
      go_wp2_with fail
      refine (each_any (w2.alloc (.cells #[.int .i64 0] 3 (0, 0))) M Nn HRR.out (w.heap.size + 1) w2.heap.size kk _ P HKL.out (fun W hW => HVO.out W _ w2.heap.size (by have := HLE.out; omega) HGA.out hW) HP.out HB2A.out HBA.out (by have := HLE.out; omega)).mono ?_
      rintro e w5 ⟨rfl, hb, hg⟩
      have k0 := hb.cell 0
      simp only [List.getElem?_toArray, List.getElem?_cons_zero] at k0
      have HG5 := Lib.hid (grown_new HGA.out hg (fun c hc => by injection hc with hc; have := HLE.out; omega))
      clear hb hg r0 r1
      go_wp2
      go_ret
      exact ⟨ret_i (by rw [HR.out]; rfl), HG5.out⟩
    · have HR : Hid (slOf M Nn P k = -1) := slOf_no2 hk
      have hin : decide ((0 : Int) ≤ k ∧ k ≤ 3) = false := decide_eq_false hk
      have hrg := fun W => inRange_any k 0 3 W
      rw [hin] at hrg
      have HRG := Lib.hid hrg
      clear g1 g2 b1 b2 gg hir hr hP hv hm hn hk hin hrg hn10 hs2
      go_enter Try.func36, Try.ntmps36
      go_wp2_with fail
      generalize (w.alloc (.cells #[.int .i64 (M : Int), .int .i64 (Nn : Int)] 49 (0, 0))).alloc (.cells #[.int .i64 k] 3 (0, 0)) = W3 at *
      refine HI.out.mono ?_
      rintro e w2 ⟨rfl, hg⟩
      have HG2 := Lib.hid (grownN_trans HG.out hg)
      have HB2' := Lib.hid (HB2.out.grown hg)
      clear hg r0 r1 n0
      have n0 := HB2'.out.cell 0
      simp only [List.getElem?_toArray, List.getElem?_cons_succ, List.getElem?_cons_zero] at n0
      go_wp2_with fail
      refine (HRG.out _).mono ?_
      rintro e w4 ⟨rfl, rfl⟩
      go_wp2
      go_ret
      exact ⟨ret_i HR.out.symm, HG2.out⟩
end Go.Proofs.Ytbpiojnehomljaa.Sld

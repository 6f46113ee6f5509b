/- Contracts of PlanCells and PlanDays, of the program and of its model. -/
import Derived.Test.YtbpiojnehomljaaRep
import Derived.Test.YtbpiojnehomljaaPlcS
namespace Go.Proofs.Ytbpiojnehomljaa.Pln
open Go.RowKit Kit Rw Rg Ld Wf App

theorem cells_bd (W H : Int) (X : List Int) (frm : Int) (L : List G2) : (planCells W H X frm L).length ≤ 941 := by
  unfold planCells
  split
  · rename_i h
    obtain ⟨h1, h2, _⟩ := plan_up h
    have := cells_len h1
    omega
  · simp
theorem sPlanCells_any (w : World) (W H frm : Int) (x v : Value) (X : List Int) (L : List G2) (hf : (Lit.int .i64 frm).wf = true) (hx : Sees .i64 w x X) (hv : SeesG encP w v L) :
    Calls Try.prog 12 #[.agg #[.int .i64 W, .int .i64 H, x], .int .i64 frm, v] w fun e w' => ∃ u, e = .returned u ∧ Rw.Own .i64 3 w' w.heap.size u (planCells W H X frm L) ∧ w.grownBy w' none :=
  (sCells_any w W H frm x v X L hf hx hv).mono fun e w' h => by
    obtain ⟨u, h1, h2, h3⟩ := h
    exact ⟨u, h1, ownI h2, h3⟩
theorem iPlanCells_any (w : World) (W H frm : Int) (x v : Value) (X : List Int) (L : List G2) (hf : (Lit.int .i64 frm).wf = true) (hx : Sees .i64 w x X) (hv : SeesG encP w v L) :
    Calls Try.prog 15 #[.agg #[.int .i64 W, .int .i64 H, x], .int .i64 frm, v] w fun e w' => ∃ u, e = .returned u ∧ Rw.Own .i64 3 w' w.heap.size u (planCells W H X frm L) ∧ w.grownBy w' none :=
  (iCells_any repeats w W H frm x v X L hf hx hv).mono fun e w' h => by
    obtain ⟨u, h1, h2, h3⟩ := h
    exact ⟨u, h1, ownI h2, h3⟩
noncomputable def planDays (W H : Int) (X : List Int) (frm : Int) (L : List G2) : Int := (planCells W H X frm L).length - 1
theorem days_bd (W H : Int) (X : List Int) (frm : Int) (L : List G2) : -1 ≤ planDays W H X frm L ∧ planDays W H X frm L ≤ 940 := by
  have := cells_bd W H X frm L
  unfold planDays
  omega

set_option maxRecDepth 20000 in
set_option maxHeartbeats 2000000 in
theorem sPlanDays_any (w : World) (W H frm : Int) (x v : Value) (X : List Int) (L : List G2) (hf : (Lit.int .i64 frm).wf = true) (hx : Sees .i64 w x X) (hv : SeesG encP w v L) :
    Calls Try.prog 23 #[.agg #[.int .i64 W, .int .i64 H, x], .int .i64 frm, v] w fun e w' => e = .returned (.int .i64 (planDays W H X frm L)) ∧ w.grownBy w' none := by
  have g1 := World.grownBy_alloc w (.cells #[.int .i64 W, .int .i64 H, x] 29 (0, 0)) (none : Option Nat)
  have HB := Lib.hid (box_new w #[.int .i64 W, .int .i64 H, x] 29)
  obtain ⟨xa, xn, xc, rfl, HXN⟩ := hx.shape
  have c0 := HB.out.cell 0
  have c1 := HB.out.cell 1
  have c2 := HB.out.cell 2
  simp only [List.getElem?_toArray, List.getElem?_cons_succ, List.getElem?_cons_zero] at c0 c1 c2
  have HC := Lib.hid (sPlanCells_any _ W H frm _ _ X L hf (hx.grown g1) (hv.grown g1))
  have HG1 := Lib.hid g1
  have HBD := Lib.hid (cells_bd W H X frm L)
  clear hf hx hv g1
  go_enter Try.func23, Try.ntmps23
  go_wp2_with fail
  refine HC.out.mono ?_
  rintro e w2 ⟨u, rfl, ho, hg⟩
  obtain ⟨ua, un, uc, rfl, HUN⟩ := ho.sees.shape
  have HG := Lib.hid (grownN_trans HG1.out hg)
  have hw : IntKind.i64.wrap ((un : Int) - 1) = planDays W H X frm L := by
    have h1 := HUN.out
    have h2 := HBD.out
    unfold planDays
    rw [h1, IntWalk.i64_in _ (by omega)]
  clear hg ho
  go_wp2
  go_ret
  exact ⟨by first | (rw [← hw]; done) | (rw [← hw]; rfl) | (congr 2; exact hw) | simp [hw], HG.out⟩

set_option maxRecDepth 20000 in
set_option maxHeartbeats 2000000 in
theorem iPlanDays_any (w : World) (W H frm : Int) (x v : Value) (X : List Int) (L : List G2) (hf : (Lit.int .i64 frm).wf = true) (hx : Sees .i64 w x X) (hv : SeesG encP w v L) :
    Calls Try.prog 24 #[.agg #[.int .i64 W, .int .i64 H, x], .int .i64 frm, v] w fun e w' => e = .returned (.int .i64 (planDays W H X frm L)) ∧ w.grownBy w' none := by
  have g1 := World.grownBy_alloc w (.cells #[.int .i64 W, .int .i64 H, x] 29 (0, 0)) (none : Option Nat)
  have HB := Lib.hid (box_new w #[.int .i64 W, .int .i64 H, x] 29)
  obtain ⟨xa, xn, xc, rfl, HXN⟩ := hx.shape
  have c0 := HB.out.cell 0
  have c1 := HB.out.cell 1
  have c2 := HB.out.cell 2
  simp only [List.getElem?_toArray, List.getElem?_cons_succ, List.getElem?_cons_zero] at c0 c1 c2
  have HC := Lib.hid (iPlanCells_any _ W H frm _ _ X L hf (hx.grown g1) (hv.grown g1))
  have HG1 := Lib.hid g1
  have HBD := Lib.hid (cells_bd W H X frm L)
  clear hf hx hv g1
  go_enter Try.func24, Try.ntmps24
  go_wp2_with fail
  refine HC.out.mono ?_
  rintro e w2 ⟨u, rfl, ho, hg⟩
  obtain ⟨ua, un, uc, rfl, HUN⟩ := ho.sees.shape
  have HG := Lib.hid (grownN_trans HG1.out hg)
  have hw : IntKind.i64.wrap ((un : Int) - 1) = planDays W H X frm L := by
    have h1 := HUN.out
    have h2 := HBD.out
    unfold planDays
    rw [h1, IntWalk.i64_in _ (by omega)]
  clear hg ho
  go_wp2
  go_ret
  exact ⟨by first | (rw [← hw]; done) | (rw [← hw]; rfl) | (congr 2; exact hw) | simp [hw], HG.out⟩
end Go.Proofs.Ytbpiojnehomljaa.Pln

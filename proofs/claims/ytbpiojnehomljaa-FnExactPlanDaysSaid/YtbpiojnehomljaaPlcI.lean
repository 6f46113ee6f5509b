/- Contract of the program's PlanCells, given slices.Repeat's. -/
import Derived.Test.YtbpiojnehomljaaFlt
namespace Go.Proofs.Ytbpiojnehomljaa.Pln
open Go.RowKit Kit Rw Rg Ld Wf App

theorem ownI_one (w : World) (x : Int) (hx : (Lit.int .i64 x).wf = true) : OwnG encI 3 (w.alloc (.cells #[.int .i64 x] 3 (0, 0))) w.heap.size (.slice (some ⟨w.heap.size, 0, none⟩) 1 1) [x] :=
  ⟨⟨by rw [flat_int]; rfl, .inr ⟨w.heap.size, 1, #[.int .i64 x], rfl, Nat.le_refl _, heap_alloc_new w _, by simp, by unfold maxLen; omega, by simp [encI], by rw [flat_int]; rfl⟩⟩, fun y hy => by simp at hy; subst hy; exact hx⟩
theorem old_rowG {α : Type} {e : Enc α} {w W' W : World} {v : Value} {P : List α} {C : Nat} (h : SeesG e w v P) (hg : w.grownBy W' none) (hC : w.heap.size ≤ C) (hW : W'.grownBy W (some C)) : SeesG e W v P := by
  have h' := h
  obtain ⟨a, c, rfl, h1, h2, h3, h4, h5⟩ := h
  rcases h5 with rfl | ⟨b, o, rfl, h6⟩
  · exact ⟨a, c, rfl, h1, h2, h3, h4, .inl rfl⟩
  · by_cases h0 : P = []
    · subst h0; exact ⟨_, c, rfl, h1, h2, h3, h4, .inl rfl⟩
    · obtain ⟨b', o', e, hlt, _⟩ := h'.at_row (List.length_pos_iff.2 h0)
      injection e with e
      injection e with e1 e2
      subst e1
      exact (h'.grown hg).kept hW (.inr (by intro hh; have hh := Option.some.inj (show some b = some C from hh); omega))
theorem toSees {w : World} {v : Value} {L : List Int} (h : SeesG encI w v L) : Sees .i64 w v L := by
  obtain ⟨a, c, rfl, h1, h2, h3, h4, h5⟩ := h
  refine ⟨a, c, rfl, h1, h2, h3, h4, ?_⟩
  rcases h5 with h5 | ⟨b, o, rfl, h6⟩
  · exact .inl h5
  · refine .inr ⟨b, o, rfl, fun j hj => ?_⟩
    rw [h6 j (by simpa [encI] using hj), flat_int]
    simp [hj]

set_option maxRecDepth 20000 in
set_option maxHeartbeats 4000000 in
theorem iCells_any (hRP : Repeats) (w : World) (W H frm : Int) (x v : Value) (X : List Int) (L : List G2) (hf : (Lit.int .i64 frm).wf = true) (hx : Sees .i64 w x X) (hv : SeesG encP w v L) :
    Calls Try.prog 15 #[.agg #[.int .i64 W, .int .i64 H, x], .int .i64 frm, v] w fun e w' => ∃ u, e = .returned u ∧ OwnG encI 3 w' w.heap.size u (planCells W H X frm L) ∧ w.grownBy w' none := by
  have hmf : ∀ (fn : Fn) (first cap : Array Value) (w : World), (Instr.makeFunc fn first cap).run Try.prog w = .ok (.func fn first cap) w := fun _ _ _ _ => rfl
  obtain ⟨i0, hi, hz0, hz1, hz2⟩ := info_parts info_i
  obtain ⟨xa, xn, xc, rfl, HXN⟩ := hx.shape
  obtain ⟨va, vn, vc, rfl, HVN⟩ := hv.shape
  have g1 := World.grownBy_alloc w (.cells #[.int .i64 W, .int .i64 H, .slice xa xn xc] 29 (0, 0)) (none : Option Nat)
  have HG1 := Lib.hid g1
  have HB := Lib.hid (box_new w #[.int .i64 W, .int .i64 H, .slice xa xn xc] 29)
  have HSZ : Hid ((w.alloc (.cells #[.int .i64 W, .int .i64 H, .slice xa xn xc] 29 (0, 0))).heap.size = w.heap.size + 1) := by show _ = _; simp
  have c0 := HB.out.cell 0
  have c1 := HB.out.cell 1
  have c2 := HB.out.cell 2
  simp only [List.getElem?_toArray, List.getElem?_cons_succ, List.getElem?_cons_zero] at c0 c1 c2
  have HX0 := Lib.hid (seesI hx)
  have HV0 := Lib.hid hv
  have HF := Lib.hid hf
  have HRP := Lib.hid hRP
  have HIP := Lib.hid (iPlan_any _ W H frm _ _ X L (hx.grown g1) (hv.grown g1))
  clear g1 hx hf hv hRP
  cases hp : isPlan W H X frm L
  · have HR : Hid (planCells W H X frm L = []) := by show _ = _; unfold planCells; rw [if_neg (by rw [hp]; decide)]
    rw [hp] at HIP
    go_enter Try.func15, Try.ntmps15
    go_wp2_with fail
    refine HIP.out.mono ?_
    rintro e w2 ⟨rfl, hg⟩
    have HG := Lib.hid (grownN_trans HG1.out hg)
    clear hg
    go_wp2
    go_ret
    exact ⟨_, rfl, by rw [HR.out]; exact (ownG_empty w2).lower HG.out.size, grownN_trans HG.out (World.grownBy_alloc _ _ _)⟩
  have HR : Hid (planCells W H X frm L = cellsTo W H X frm L L.length) := by show _ = _; unfold planCells; rw [if_pos hp]
  obtain ⟨hup, hl10, _⟩ := plan_up hp
  have HUP := Lib.hid hup
  have HL10 := Lib.hid hl10
  have HCL := Lib.hid (cells_len hup)
  rw [hp] at HIP
  clear hp hup hl10
  go_enter Try.func15, Try.ntmps15
  go_wp2_with fail
  generalize w.alloc (.cells #[.int .i64 W, .int .i64 H, .slice xa xn xc] 29 (0, 0)) = W1 at *
  refine HIP.out.mono ?_
  rintro e w2 ⟨rfl, hg⟩
  have HG2 := Lib.hid hg
  have hgB := World.grownBy_alloc w2 (.cells #[.int .i64 frm] 3 (0, 0)) (none : Option Nat)
  have HG3 := Lib.hid (grownN_trans (grownN_trans HG1.out hg) hgB)
  have HLE : Hid (w.heap.size + 1 ≤ w2.heap.size) := by show _ ≤ _; have h1 := hg.size; have h2 := HSZ.out; omega
  have HCALL := Lib.hid (flat_any HRP.out (w2.alloc (.cells #[.int .i64 frm] 3 (0, 0))) w.heap.size w2.heap.size W H frm (.slice xa xn xc) (.slice va vn vc) X L (toSees (HX0.out.grown HG3.out)) (fun W' hW => old_rowG HV0.out HG3.out (by have := HLE.out; omega) hW) ((HB.out.grown hg).grown hgB) (box_new w2 #[.int .i64 frm] 3) (by have := HLE.out; omega) (fun W' hW => toSees (old_rowG HX0.out HG3.out (by have := HLE.out; omega) hW)) HUP.out HL10.out)
  clear hg hgB c0 c1 c2
  go_wp2_with fail
  refine HCALL.out.mono ?_
  rintro e w5 ⟨u5, rfl, ho, hg⟩
  have HU5 := Lib.hid ho
  have HG5 : Hid (w.grownBy w5 none) := grown_new HG3.out hg (fun c hc => by have h1 := HLE.out; have h2 := Option.some.inj hc; omega)
  have HO1 := Lib.hid (ownI_one w5 frm HF.out)
  have HU6 := Lib.hid (ho.sees.grown (World.grownBy_alloc w5 (.cells #[.int .i64 frm] 3 (0, 0)) none))
  have HFC : Hid (cellsTo W H X frm L L.length = [frm] ++ (cellsTo W H X frm L L.length).drop 1) := by
    show _ = _
    have h : ∀ k, ∃ T, cellsTo W H X frm L k = frm :: T := fun k => by
      induction k with
      | zero => exact ⟨[], rfl⟩
      | succ k ih => obtain ⟨T, hT⟩ := ih; exact ⟨_, by rw [cellsTo, hT]; rfl⟩
    obtain ⟨T, hT⟩ := h L.length
    rw [hT]; rfl
  have HDL : Hid (((cellsTo W H X frm L L.length).drop 1).length ≤ 1000) := by show _ ≤ _; rw [List.length_drop]; have h1 := HCL.out; have h2 := HL10.out; omega
  clear ho hg
  go_wp2_with (at_builtin; go_loud (refine wpListG_append_sees _ rfl _ _ 22 rfl w5.heap.size 3 i0 (.int .i64 0) 8 Try.underlying22 hi hz0 hz1 hz2 rfl _ [frm] rfl HO1.out _ ((cellsTo W H X frm L L.length).drop 1) rfl HU6.out (by have := HDL.out; unfold maxLen; simp at this ⊢; omega) (by have := HDL.out; simp at this ⊢; omega) (by simp) ?_); intro v6 w6 hown6 hgrow6; have HO6 := Lib.hid hown6; have HG6 := Lib.hid (grown_new (World.grownBy_alloc w5 (.cells #[.int .i64 frm] 3 (0, 0)) none) hgrow6 (fun c hc => (HO1.out.lt c hc).1)); clear hown6 hgrow6)
  go_ret
  exact ⟨_, rfl, by rw [HR.out, HFC.out]; exact HO6.out.lower HG5.out.size, grownN_trans HG5.out HG6.out⟩
end Go.Proofs.Ytbpiojnehomljaa.Pln

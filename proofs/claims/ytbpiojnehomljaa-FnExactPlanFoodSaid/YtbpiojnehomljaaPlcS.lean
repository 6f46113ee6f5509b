/- Contract of the model's PlanCells. -/
import Derived.Test.YtbpiojnehomljaaG31
import Derived.Test.YtbpiojnehomljaaWayU
import Derived.Test.YtbpiojnehomljaaG7
import Derived.Deep.RegionHeldLaw
namespace Go.Proofs.Ytbpiojnehomljaa.Pln
open Go.RowKit Kit Rw Rg Ld Wf App

theorem info_i : (Try.prog.info? 3).map (fun i => (i.zero, i.size, i.bytes)) = some (some (.int .i64 0), 1, 8) := by kernel_rfl
theorem toG {E : TypeId} {w : World} {base : Nat} {v : Value} {L : List Int} (h : Rw.Own .i64 E w base v L) : OwnG encI E w base v L := by
  refine ⟨?_, h.2⟩
  have h1 := h.1
  rw [← flat_int] at h1
  exact h1
theorem own_cell {w : World} {base g n cap : Nat} {L : List Int} (h : OwnG encI 3 w base (.slice (some ⟨g, 0, none⟩) n cap) L) {j : Nat} (hj : j < L.length) : w.cell? ⟨g, j, none⟩ = some (.int .i64 (L.getD j 0)) := by
  obtain ⟨h1, _⟩ := h
  have hn : n = L.length := by
    rcases h1.2 with ⟨h0, _⟩ | ⟨_, _, _, hv, _⟩
    · cases h0
    · injection hv
  subst hn
  rw [h1.cellAt j (by simpa [encI] using hj), flat_int]
  simp [hj]

theorem tail_sees {w : World} {g n c : Nat} {M : List Int} (h : SeesG encI w (.slice (some ⟨g, 0, none⟩) n c) M) (hl : 1 ≤ M.length) : SeesG encI w (.slice (if c = 1 then some ⟨g, 0, none⟩ else some ⟨g, 1, none⟩) (n - 1) (c - 1)) (M.drop 1) := by
  have h1 := seesG_from h hl (k := 1) (by rfl)
  have e : (some (⟨g, 0, none⟩ : Addr)).map (fun x => x.add 1) = some ⟨g, 1, none⟩ := by simp [Kit.add_plain]
  rwa [e] at h1

set_option maxRecDepth 20000 in
set_option maxHeartbeats 8000000 in
theorem sCells_any (w : World) (W H frm : Int) (x v : Value) (X : List Int) (L : List G2) (hf : (Lit.int .i64 frm).wf = true) (hx : Sees .i64 w x X) (hv : SeesG encP w v L) :
    Calls Try.prog 12 #[.agg #[.int .i64 W, .int .i64 H, x], .int .i64 frm, v] w fun e w' => ∃ u, e = .returned u ∧ OwnG encI 3 w' w.heap.size u (planCells W H X frm L) ∧ w.grownBy w' none := by
  obtain ⟨i0, hi, hz0, hz1, hz2⟩ := info_parts info_i
  obtain ⟨xa, xn, xc, rfl, HXN⟩ := hx.shape
  have g1 := World.grownBy_alloc w (.cells #[.int .i64 W, .int .i64 H, .slice xa xn xc] 29 (0, 0)) (none : Option Nat)
  have ho := ownG_empty (e := encI) (E := 3) (w.alloc (.cells #[.int .i64 W, .int .i64 H, .slice xa xn xc] 29 (0, 0)))
  simp only [World.size_alloc] at ho
  have HO0 := Lib.hid ho
  have g2 := World.grownBy_alloc (w.alloc (.cells #[.int .i64 W, .int .i64 H, .slice xa xn xc] 29 (0, 0))) (.cells #[] 3 (0, 0)) (none : Option Nat)
  have HG1 := Lib.hid g1
  have HG2 := Lib.hid g2
  have HSZ : Hid ((w.alloc (.cells #[.int .i64 W, .int .i64 H, .slice xa xn xc] 29 (0, 0))).heap.size = w.heap.size + 1) := by show _ = _; simp
  have HB := Lib.hid (box_new w #[.int .i64 W, .int .i64 H, .slice xa xn xc] 29)
  have HX := Lib.hid (hx.grown g1)
  have HV := Lib.hid (hv.grown g1)
  have HV0 := Lib.hid hv
  have HF := Lib.hid hf
  have HIP := Lib.hid (sPlan_any _ W H frm _ _ X L (hx.grown (grownN_trans g1 g2)) (hv.grown (grownN_trans g1 g2)))
  have c0 := ((box_new w #[.int .i64 W, .int .i64 H, .slice xa xn xc] 29).grown g2).cell 0
  have c1 := ((box_new w #[.int .i64 W, .int .i64 H, .slice xa xn xc] 29).grown g2).cell 1
  have c2 := ((box_new w #[.int .i64 W, .int .i64 H, .slice xa xn xc] 29).grown g2).cell 2
  simp only [List.getElem?_toArray, List.getElem?_cons_succ, List.getElem?_cons_zero] at c0 c1 c2
  obtain ⟨a, cap, rfl, _⟩ := hv
  have hlnn := HV0.out.len
  clear hx hf g1 g2 ho
  cases hp : isPlan W H X frm L
  · have HR : Hid (planCells W H X frm L = []) := by show _ = _; unfold planCells; rw [if_neg (by rw [hp]; decide)]
    rw [hp] at HIP
    go_enter Try.func12, Try.ntmps12
    go_wp2_with fail
    refine HIP.out.mono ?_
    rintro e w2 ⟨rfl, hg⟩
    have HO2 := Lib.hid ((HO0.out.grown hg).lower (Nat.le_succ _))
    have HG := Lib.hid (grownN_trans (grownN_trans HG1.out HG2.out) hg)
    clear hg
    go_wp2
    go_ret
    exact ⟨_, rfl, by rw [HR.out]; exact HO2.out, HG.out⟩
  have HR : Hid (planCells W H X frm L = cellsTo W H X frm L L.length) := by show _ = _; unfold planCells; rw [if_pos hp]
  obtain ⟨hup, hl10, _⟩ := plan_up hp
  have HUP := Lib.hid hup
  have HL10 := Lib.hid hl10
  rw [hp] at HIP
  clear hp hup hl10
  go_enter Try.func12, Try.ntmps12
  go_wp2_with fail
  generalize w.alloc (.cells #[.int .i64 W, .int .i64 H, .slice xa xn xc] 29 (0, 0)) = W1 at *
  refine HIP.out.mono ?_
  rintro e w2 ⟨rfl, hg⟩
  have HO2 := Lib.hid (HO0.out.grown hg)
  have HG3 := Lib.hid (grownN_trans HG2.out hg)
  have HS3 : Hid (w.heap.size + 1 ≤ w2.heap.size) := by show _ ≤ _; have h1 := HG3.out.size; have h2 := HSZ.out; omega
  clear hg c0 c1 c2
  go_wp2_with (at_builtin; go_loud (refine wpListG_append_one (e := encI) _ rfl _ _ 22 rfl (w.heap.size + 1) 3 i0 (.int .i64 0) 8 Try.underlying22 hi hz0 hz1 hz2 rfl _ [] rfl HO2.out frm #[.int .i64 frm] rfl rfl HF.out (by simp) (by decide) HS3.out ?_); intro v4 w4 hown hgrow hloc; have HO4 := Lib.hid hown; have HG4 := Lib.hid (grown_new HG3.out hgrow (fun c hc => by have h1 := (HO2.out.lt c hc).1; have h2 := HSZ.out; omega)); clear hown hgrow hloc)
  go_loopw [7, 8] (fun u i wr => ∃ k : Nat, k ≤ L.length ∧ i = .int .i64 k ∧ Hid (OwnG encI 3 wr (w.heap.size + 1) u (cellsTo W H X frm L k)) ∧ Hid (W1.grownBy wr none)) (fun _ i _ => L.length - (intOf i).toNat)
  case atStart => exact ⟨0, Nat.zero_le _, rfl, HO4, HG4⟩
  case round =>
    rename_i u _ wr
    obtain ⟨k, hk, rfl, HO, HG⟩ := hrel
    by_cases hlt : k < L.length
    · have hltI : (k : Int) < (L.length : Int) := by omega
      have hk0 : (0 : Int) ≤ (k : Int) := by omega
      obtain ⟨b, o, rfl, hbl, _⟩ := HV0.out.at_row hlt
      have HBL := Lib.hid hbl
      obtain ⟨y, hy⟩ : ∃ y, L.getD k (0, 0) = y := ⟨_, rfl⟩
      have hyw : (Lit.int .i64 y.1).wf = true := by rw [← hy]; exact (HV0.out.ok _ (memG hlt)).1
      have HYW := Lib.hid hyw
      have HY := Lib.hid hy
      have HDY := Lib.hid (fun w' (hg : W1.grownBy w' none) => atP_in HV.out hg hlt hy)
      have hokk := HUP.out k hlt
      have hlen := cells_len (frm := frm) (fun i hi => HUP.out i (by omega) : upL W H X frm L k)
      have hat := cells_at (fun i hi => HUP.out i (by omega) : upL W H X frm L k)
      have hpos := cells_pos (W := W) (H := H) (X := X) (frm := frm) (L := L) (k := k)
      obtain ⟨g, ucap, hu⟩ := own_at HO.out hpos
      subst hu
      obtain ⟨m, hm⟩ : ∃ m, (cellsTo W H X frm L k).length = m + 1 := ⟨_, (Nat.sub_add_cancel hpos).symm⟩
      have hcell := own_cell HO.out (j := m) (by omega)
      rw [hm, Nat.add_sub_cancel] at hat
      rw [hat] at hcell
      have HHM := Lib.hid hm
      rw [hm] at HO ⊢
      obtain ⟨p, hp⟩ : ∃ p, p = legAt frm L k := ⟨_, rfl⟩
      rw [← hp] at hcell
      unfold okLeg at hokk
      rw [hy, ← hp] at hokk
      have HOK := Lib.hid hokk
      have HP := Lib.hid hp
      obtain ⟨y0, y1⟩ := y
      dsimp only at HYW HDY hokk HOK
      have HCELL := Lib.hid hcell
      have HGL := Lib.hid (HO.out.lt g rfl)
      obtain ⟨M, hM⟩ : ∃ M, M = wayOf W H X p y0 := ⟨_, rfl⟩
      have HMM := Lib.hid hM
      have hwl : 0 < M.length := by
        obtain ⟨d, hd⟩ : ∃ d : Nat, daysOf W H X p y0 = d := ⟨(daysOf W H X p y0).toNat, by have := hokk.1; omega⟩
        rw [hM, (wayP hd).len]; omega
      have hwt : M.length ≤ 65 := by rw [hM]; exact wayOf_len W H X p y0
      have HWT := Lib.hid (fun w' hx => WayS.sWayTo_any w' W H p y0 (.slice xa xn xc) X hx)
      rw [← hM] at HWT
      obtain ⟨r, hr⟩ : ∃ r : Nat, y1 = (r : Int) := ⟨y1.toNat, by have := hokk.2.1; omega⟩
      subst hr
      have hr30 : r ≤ 30 := by have := hokk.2.2; omega
      have HLEN := Lib.hid hlen
      have HQ0 := Lib.hid (grown_drew (World.grownBy.refl wr none))
      have HS : Hid (∀ w', wr.grownBy w' none → w'.cell? ⟨w.heap.size, 0, none⟩ = some (.int .i64 W) ∧ w'.cell? ⟨w.heap.size, 1, none⟩ = some (.int .i64 H) ∧ w'.cell? ⟨w.heap.size, 2, none⟩ = some (.slice xa xn xc) ∧ w'.cell? ⟨g, m, none⟩ = some (.int .i64 p) ∧ w'.cell? ⟨b, o + k * 2, none⟩ = some (.int .i64 y0)) := fun w' hg => ⟨(HB.out.grown (grownN_trans HG.out hg)).cell 0, (HB.out.grown (grownN_trans HG.out hg)).cell 1, (HB.out.grown (grownN_trans HG.out hg)).cell 2, hg.cell HCELL.out (by simp), (HDY.out _ (grownN_trans HG.out hg)).1⟩
      have HS6 : Hid (∀ w5 w6, wr.grownBy w5 none → w5.grownBy w6 (some g) → (∀ j, j < m + 1 → w6.cell? ⟨g, j, none⟩ = w5.cell? ⟨g, j, none⟩) → w6.cell? ⟨w.heap.size, 0, none⟩ = some (.int .i64 W) ∧ w6.cell? ⟨w.heap.size, 1, none⟩ = some (.int .i64 H) ∧ w6.cell? ⟨w.heap.size, 2, none⟩ = some (.slice xa xn xc) ∧ w6.cell? ⟨g, m, none⟩ = some (.int .i64 p) ∧ w6.cell? ⟨b, o + k * 2, none⟩ = some (.int .i64 y0)) := fun w5 w6 h5 h6 hc => by
        obtain ⟨a0, a1, a2, a3, a4⟩ := HS.out w5 h5
        have hgb := HGL.out.1
        have hbb := HBL.out
        exact ⟨h6.cell a0 (by simp; omega), h6.cell a1 (by simp; omega), h6.cell a2 (by simp; omega), (hc m (by omega)).trans a3, h6.cell a4 (by simp; omega)⟩
      have hmI : ((m + 1 : Nat) : Int) - 1 = (m : Int) := by omega
      have hm0 : (0 : Int) ≤ (m : Int) := by omega
      have hmm : (m : Int) < ((m + 1 : Nat) : Int) := by omega
      have hm1 : (m : Int) < (m : Int) + 1 := by omega
      have hmb : m + 1 ≤ 941 := by have h1 := HLEN.out; have h2 := HL10.out; have h3 := HHM.out; omega
      have hwm : IntKind.i64.wrap (m : Int) = (m : Int) := IntWalk.i64_in _ (by omega)
      clear hcell hat hpos hm hp hokk hM hlen hy hyw hbl
      have HMID : Hid (midCells W H X frm L k 0 = cellsTo W H X frm L k ++ M.drop 1) := by show _ = _; rw [mid_zero, HY.out, ← HP.out, ← HMM.out]
      have HMN : Hid (∀ j, midCells W H X frm L k (j + 1) = midCells W H X frm L k j ++ [y0]) := fun j => by rw [mid_next, HY.out]
      have HMA : Hid (midCells W H X frm L k r = cellsTo W H X frm L (k + 1)) := by
        show _ = _
        have h := mid_all (W := W) (H := H) (X := X) (frm := frm) (L := L) (k := k)
        rw [HY.out] at h
        simpa using h
      have HML : Hid (∀ j, j ≤ 30 → (midCells W H X frm L k j).length ≤ 1100) := fun j hj => by
        have h := mid_len (W := W) (H := H) (X := X) (frm := frm) (L := L) (k := k) (j := j) (fun i hi => HUP.out i (by omega)) hj
        have h2 := HL10.out
        omega
      have h1M : (1 : Int) ≤ (M.length : Int) := by omega
      go_wp2_with fail
      go_region_held_law (fun w' => w'.cell? ⟨w.heap.size, 0, none⟩ = some (.int .i64 W) ∧ w'.cell? ⟨w.heap.size, 1, none⟩ = some (.int .i64 H) ∧ w'.cell? ⟨w.heap.size, 2, none⟩ = some (.slice xa xn xc) ∧ w'.cell? ⟨g, m, none⟩ = some (.int .i64 p) ∧ w'.cell? ⟨b, o + k * 2, none⟩ = some (.int .i64 y0)) (first | exact HS.out _ HQ0.out | exact HS.out _ HQ1.out | exact HW6.out) (first | (go_at_call 47; refine (HWT.out _ (HX.out.grown (grownN_trans HG.out HQ0.out))).mono ?_; rintro e w5 ⟨u5, rfl, ho5, hg5⟩; have HQ1 := Lib.hid (grownN_trans HQ0.out hg5); have HO5 := Lib.hid (toG ho5); obtain ⟨g5, c5, hu5⟩ := own_at HO5.out hwl; subst hu5; clear ho5 hg5) | (have hzz := HQ1.out; clear hzz; refine Apt.step_keep _ (by rfl) _ _ _ (by rfl) 3 i0 (.int .i64 0) Try.underlying22 hi hz0 hz1 hz2 (by rfl) (by rfl) (HO.out.grown HQ1.out) _ (M.drop 1) (by rfl) (tail_sees HO5.out.sees (by omega)) (by have := HHM.out; simp; omega) (by have h1 := HS3.out; have h2 := HSZ.out; have h3 := HG.out.size; have h4 := HQ1.out.size; omega) ?_; intro v6 w6 ho6 hg6 hc6; have HO6 := Lib.hid ho6; have HW6 := Lib.hid (HS6.out _ _ HQ1.out hg6 hc6); have HG6 := Lib.hid (grown_new (grownN_trans HG.out HQ1.out) hg6 (fun c hc => by have h1 := HGL.out.1; have h2 := HSZ.out; have h3 := Option.some.inj hc; omega)); clear ho6 hg6 hc6))
      all_goals
        go_wp2
        all_goals
          go_loopw [7, 9] (fun u i wr2 => ∃ j : Nat, j ≤ r ∧ i = .int .i64 j ∧ Hid (OwnG encI 3 wr2 (w.heap.size + 1) u (midCells W H X frm L k j)) ∧ Hid (W1.grownBy wr2 none)) (fun _ i _ => r - (intOf i).toNat)
          case atStart => exact ⟨0, Nat.zero_le _, rfl, by rw [HMID.out]; exact HO6, HG6⟩
          case round =>
            rename World => wr2
            obtain ⟨j, hj, rfl, HO7, HG7⟩ := hrel
            obtain ⟨d0, d1⟩ := HDY.out _ HG7.out
            by_cases hjr : j < r
            · have hjI : (j : Int) < (r : Int) := by omega
              have HS7 : Hid (w.heap.size + 1 ≤ wr2.heap.size) := by show _ ≤ _; have h1 := HG7.out.size; have h2 := HSZ.out; omega
              go_wp2_with (at_builtin; go_loud (refine wpListG_append_one (e := encI) _ rfl _ _ 22 rfl (w.heap.size + 1) 3 i0 (.int .i64 0) 8 Try.underlying22 hi hz0 hz1 hz2 rfl _ (midCells W H X frm L k j) rfl HO7.out y0 #[.int .i64 y0] rfl rfl HYW.out (by have := HML.out j (by omega); omega) (by decide) HS7.out ?_); intro v8 w8 hown hgrow hloc; have HO8 := Lib.hid hown; have HG8 := Lib.hid (grown_new HG7.out hgrow (fun c hc => by have h1 := (HO7.out.lt c hc).1; have h2 := HSZ.out; omega)); clear hown hgrow hloc)
              go_roundw
              case rel => exact ⟨j + 1, by omega, by go_num, by rw [HMN.out]; exact HO8, HG8⟩
              case measure => simp [intOf]; omega
            · have : j = r := by omega
              subst this
              go_wp2
              go_roundw
              case rel => exact ⟨k + 1, by omega, by go_num, by rw [← HMA.out]; exact HO7, HG7⟩
              case measure => simp [intOf]; omega
    · have : k = L.length := by omega
      subst this
      go_wp2
      go_ret
      exact ⟨_, rfl, by rw [HR.out]; exact HO.out.lower (Nat.le_succ _), grownN_trans HG1.out HG.out⟩
end Go.Proofs.Ytbpiojnehomljaa.Pln

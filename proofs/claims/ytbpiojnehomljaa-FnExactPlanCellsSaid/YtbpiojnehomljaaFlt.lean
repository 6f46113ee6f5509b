/- Contract of the program's flattened, over the legs of a plan, given slices.Repeat's. -/
import Derived.Test.YtbpiojnehomljaaFol
namespace Go.Proofs.Ytbpiojnehomljaa.Pln
open Go.RowKit Kit Rw Rg Ld Wf App

set_option maxRecDepth 20000 in
set_option maxHeartbeats 2000000 in
theorem leg_any (hRP : Repeats) (w : World) (A B : Nat) (W H p y0 : Int) (r : Nat) (x : Value) (X : List Int) (hx : Sees .i64 w x X) (hA : Box w A #[.int .i64 W, .int .i64 H, x] 29) (hB : Box w B #[.int .i64 p] 3) (hd : 0 ≤ daysOf W H X p y0) (hr : r ≤ 30) (hyw : (Lit.int .i64 y0).wf = true) :
    Calls Try.prog 52 #[.agg #[.int .i64 y0, .int .i64 (r : Int)], .pointer (some ⟨A, 0, none⟩), .pointer (some ⟨B, 0, none⟩)] w fun e w' => ∃ u, e = .returned u ∧ SeesG encI w' u (legCells W H X p (y0, (r : Int))) ∧ Box w' B #[.int .i64 y0] 3 ∧ w.grownBy w' (some B) := by
  obtain ⟨xa, xn, xc, rfl, HXN⟩ := hx.shape
  have g1 := World.grownBy_alloc w (.cells #[.int .i64 y0, .int .i64 (r : Int)] 72 (0, 0)) (none : Option Nat)
  have HG := Lib.hid g1
  have b1 := box_new w #[.int .i64 y0, .int .i64 (r : Int)] 72
  have d0 := b1.cell 0
  have d1 := b1.cell 1
  have a0 := (hA.grown g1).cell 0
  have a1 := (hA.grown g1).cell 1
  have a2 := (hA.grown g1).cell 2
  simp only [List.getElem?_toArray, List.getElem?_cons_succ, List.getElem?_cons_zero] at d0 d1 a0 a1 a2
  have HC := Lib.hid (follow_any hRP _ B W H p y0 r _ X (hx.grown g1) (hB.grown g1) hd hr hyw)
  clear g1 b1 hx hA hB hd hr hyw hRP
  go_enter Try.func52, Try.ntmps52
  go_wp2_with fail
  refine HC.out.mono ?_
  rintro e w2 ⟨u, rfl, hs, hb, hg⟩
  have HS := Lib.hid hs
  have HB := Lib.hid hb
  have HG2 := Lib.hid (grownN_trans (weakB (r := some B) HG.out) hg)
  clear hs hb hg
  go_wp2
  go_ret
  exact ⟨_, rfl, HS.out, HB.out, HG2.out⟩

theorem ahead_next {W H : Int} {X : List Int} {frm : Int} {L : List G2} (k : Nat) : (cellsTo W H X frm L (k + 1)).drop 1 = (cellsTo W H X frm L k).drop 1 ++ legCells W H X (legAt frm L k) (L.getD k (0, 0)) := by
  rw [cellsTo, List.drop_append_of_le_length cells_pos]

set_option maxRecDepth 20000 in
set_option maxHeartbeats 4000000 in
theorem flat_any (hRP : Repeats) (w : World) (A B : Nat) (W H frm : Int) (x v : Value) (X : List Int) (L : List G2) (hx : Sees .i64 w x X) (hv : ∀ W', w.grownBy W' (some B) → SeesG encP W' v L) (hA : Box w A #[.int .i64 W, .int .i64 H, x] 29) (hB : Box w B #[.int .i64 frm] 3) (hAB : A ≠ B) (hxB : ∀ W', w.grownBy W' (some B) → Sees .i64 W' x X) (hup : upL W H X frm L L.length) (hl10 : L.length ≤ 10) :
    Calls Try.prog 51 #[v, .func (.func 52) #[] #[.pointer (some ⟨A, 0, none⟩), .pointer (some ⟨B, 0, none⟩)]] w fun e w' => ∃ u, e = .returned u ∧ OwnG encI 3 w' w.heap.size u ((cellsTo W H X frm L L.length).drop 1) ∧ w.grownBy w' (some B) := by
  obtain ⟨i0, hi, hz0, hz1, hz2⟩ := info_parts info_i
  have hv0 := hv w (World.grownBy.refl _ _)
  have HV0 := Lib.hid hv0
  have HV := Lib.hid hv
  have HXB := Lib.hid hxB
  have HA := Lib.hid hA
  have HRP := Lib.hid hRP
  have HUP := Lib.hid hup
  have HL10 := Lib.hid hl10
  have HAB := Lib.hid hAB
  have HBL := Lib.hid hB.lt
  have HW : Hid (OwnG encI 3 (w.alloc (.cells #[] 3 (0, 0))) w.heap.size (.slice (some ⟨w.heap.size, 0, none⟩) 0 0) []) := ownG_empty w
  have HG := Lib.hid (World.grownBy_alloc w (.cells #[] 3 (0, 0)) (some B))
  have HB0 := Lib.hid (hB.grown (World.grownBy_alloc w (.cells #[] 3 (0, 0)) none))
  have hlnn := hv0.len
  obtain ⟨a, cap, rfl, _⟩ := hv0
  clear hx hv hxB hA hRP hup hl10 hAB hB
  go_enter Try.func51, Try.ntmps51
  go_wp2
  go_loopw [5, 11] (fun u i wr => ∃ k : Nat, k ≤ L.length ∧ i = .int .i64 k ∧ Hid (OwnG encI 3 wr w.heap.size u ((cellsTo W H X frm L k).drop 1)) ∧ Hid (Box wr B #[.int .i64 (legAt frm L k)] 3) ∧ Hid (w.grownBy wr (some B))) (fun _ i _ => L.length - (intOf i).toNat)
  case atStart => exact ⟨0, Nat.zero_le _, rfl, HW, HB0, HG⟩
  case round =>
    rename World => wr
    obtain ⟨k, hk, rfl, HO, HBk, HGr⟩ := hrel
    by_cases hlt : k < L.length
    · have hltI : (k : Int) < (L.length : Int) := by omega
      have hk0 : (0 : Int) ≤ (k : Int) := by omega
      obtain ⟨b, o, rfl, _, _⟩ := HV0.out.at_row hlt
      obtain ⟨y, hy⟩ : ∃ y, L.getD k (0, 0) = y := ⟨_, rfl⟩
      have hyw : (Lit.int .i64 y.1).wf = true := by rw [← hy]; exact (HV0.out.ok _ (memG hlt)).1
      obtain ⟨e0, e1⟩ := atP_in (HV.out wr HGr.out) (World.grownBy.refl wr none) hlt hy
      have hokk := HUP.out k hlt
      unfold okLeg at hokk
      rw [hy] at hokk
      have HY := Lib.hid hy
      have HNX : Hid (legAt frm L (k + 1) = y.1) := by show _ = _; rw [← hy]; rfl
      have HCN := Lib.hid (ahead_next (W := W) (H := H) (X := X) (frm := frm) (L := L) k)
      rw [hy] at HCN
      have hlen := cells_len (frm := frm) (fun i hi => HUP.out i (by omega) : upL W H X frm L k)
      have hlw : (legCells W H X (legAt frm L k) y).length ≤ 100 := by
        unfold legCells
        have h1 := wayOf_len W H X (legAt frm L k) y.1
        rw [List.length_append, List.length_drop, List.length_replicate]
        have h2 := hokk.2.2
        omega
      have hdl : ((cellsTo W H X frm L k).drop 1).length ≤ 1000 := by rw [List.length_drop]; have h3 := HL10.out; omega
      have HLW := Lib.hid hlw
      have HDL := Lib.hid hdl
      obtain ⟨y0, y1⟩ := y
      dsimp only at e0 e1 hyw hokk HNX
      obtain ⟨r, hr⟩ : ∃ r : Nat, y1 = (r : Int) := ⟨y1.toNat, by have := hokk.2.1; omega⟩
      subst hr
      have HYW := Lib.hid hyw
      have HOK := Lib.hid hokk
      have hg2 := World.grownBy_alloc wr (.cells #[.int .i64 y0, .int .i64 (r : Int)] 72 (0, 0)) (none : Option Nat)
      have HG2 := Lib.hid hg2
      have HCALL := Lib.hid (leg_any HRP.out _ A B W H (legAt frm L k) y0 r x X ((HXB.out wr HGr.out).grown hg2) ((HA.out.kept HGr.out (fun e => HAB.out (Option.some.inj e).symm)).grown hg2) (HBk.out.grown hg2) hokk.1 (by have := hokk.2.2; omega) hyw)
      have HO2 := Lib.hid (HO.out.grown hg2)
      clear hy hyw hokk hlen hlw hdl hg2
      go_wp2_with fail
      refine HCALL.out.mono ?_
      rintro e w5 ⟨uL, rfl, hs, hb, hg⟩
      have HNO : Hid (∀ c, _ = some c → w.heap.size ≤ c) := fun c hc => (HO.out.lt c hc).1
      have HO5 := Lib.hid (HO2.out.kept hg (.inr (fun e => by have h1 := HNO.out _ e; have h2 := HBL.out; omega)))
      have HS5 := Lib.hid hs
      have HB5 := Lib.hid hb
      have HG5 := Lib.hid (grownN_trans (grownN_trans HGr.out (weakB (r := some B) HG2.out)) hg)
      clear hs hb hg
      go_wp2_with (at_builtin; go_loud (refine wpListG_append_sees _ rfl _ _ 22 rfl w.heap.size 3 i0 (.int .i64 0) 8 Try.underlying22 hi hz0 hz1 hz2 rfl _ ((cellsTo W H X frm L k).drop 1) rfl HO5.out _ (legCells W H X (legAt frm L k) (y0, (r : Int))) rfl HS5.out (by unfold maxLen; have h1 := HLW.out; have h2 := HDL.out; omega) (by have h1 := HLW.out; have h2 := HDL.out; omega) HG5.out.size ?_); intro v6 w6 hown6 hgrow6; have HO6 := Lib.hid hown6; have HB6 := Lib.hid (HB5.out.kept hgrow6 (fun e => by have h1 := HNO.out _ e; have h2 := HBL.out; omega)); have HG6 : Hid (w.grownBy w6 (some B)) := ⟨hgrow6.os.trans HG5.out.os, hgrow6.tape.trans HG5.out.tape, hgrow6.output.trans HG5.out.output, Nat.le_trans HG5.out.size hgrow6.size, fun q hq hne => (hgrow6.block q (Nat.lt_of_lt_of_le hq HG5.out.size) (fun e => by have h1 := HNO.out _ e.symm; omega)).trans (HG5.out.block q hq hne)⟩; clear hown6 hgrow6)
      go_roundw
      case rel => exact ⟨k + 1, by omega, by go_num, by rw [HCN.out]; exact HO6, by rw [HNX.out]; exact HB6, HG6⟩
      case measure => simp [intOf]; omega
    · have : k = L.length := by omega
      subst this
      go_wp2
      go_ret
      exact ⟨_, rfl, HO.out, HGr.out⟩
end Go.Proofs.Ytbpiojnehomljaa.Pln

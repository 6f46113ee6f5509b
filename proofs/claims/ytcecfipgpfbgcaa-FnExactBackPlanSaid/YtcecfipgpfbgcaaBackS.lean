/- Contracts of the plan back, of the program at the wide fence, and of its model. -/
import Derived.Test.YtcecfipgpfbgcaaBackI
namespace Go.Proofs.Ytcecfipgpfbgcaa.Bck
open Go.RowKit Kit Rw Rg

theorem iBack_any (w : World) (v : Value) (frm : Int) (L : List G2) (hf : (Lit.int .i64 frm).wf = true) (hv : SeesG encP w v L) (hn : L.length ≤ 1000000000) :
    Calls Try.prog 21 #[.int .i64 frm, v] w fun e w' => ∃ u, e = .returned u ∧ OwnG encP 47 w' w.heap.size u (back frm L) ∧ w.grownBy w' none := by
  have hok := hv.ok
  have hvv := hv
  obtain ⟨a, cap, rfl, _⟩ := hv
  refine ((callsIn_wide (n := 5)).1 (iBack_in Fence.wide 5 trivial trivial trivial rfl (by omega) w frm a cap L hn (legs_of hvv))).mono ?_
  rintro e w' ⟨u, rfl, hr, hb⟩
  exact ⟨u, rfl, ⟨hr, back_ok hf hok⟩, below_grown hb⟩
theorem zero_wf : (Lit.int .i64 0).wf = true := by decide
def backTo (frm : Int) (L : List G2) (k : Nat) : List G2 := (upto (fromEnd L.length) k).map (legOf frm L)
theorem backTo_next {frm : Int} {L : List G2} {j : Nat} (h : j + 1 < L.length) : backTo frm L (L.length - 1 - j) = backTo frm L (L.length - 1 - (j + 1)) ++ [((L.getD j (0, 0)).1, 0)] := by
  unfold backTo
  rw [show L.length - 1 - j = (L.length - 1 - (j + 1)) + 1 by omega, upto_succ, List.map_append]
  congr 1
  simp only [List.map_cons, List.map_nil, legOf, goTo, fromEnd]
  rw [show L.length - 1 - (L.length - 1 - (j + 1)) = j + 1 by omega, if_pos (by omega)]
  rfl
theorem backTo_last {frm : Int} {L : List G2} (h : 0 < L.length) : back frm L = backTo frm L (L.length - 1) ++ [(frm, 0)] := by
  unfold back backTo
  rw [show upto (fromEnd L.length) L.length = upto (fromEnd L.length) (L.length - 1 + 1) by congr 1; omega, upto_succ, List.map_append]
  congr 1
  simp only [List.map_cons, List.map_nil, legOf, goTo, fromEnd]
  rw [show L.length - 1 - (L.length - 1) = 0 by omega, if_neg (by omega)]
theorem backTo_len (frm : Int) (L : List G2) (k : Nat) : (backTo frm L k).length = k := by simp [backTo, upto]

set_option maxRecDepth 20000 in
set_option maxHeartbeats 1000000 in
theorem sBack_any (w : World) (v : Value) (frm : Int) (L : List G2) (hf : (Lit.int .i64 frm).wf = true) (hv : SeesG encP w v L) (hn : L.length ≤ 1000000000) :
    Calls Try.prog 20 #[.int .i64 frm, v] w fun e w' => ∃ u, e = .returned u ∧ OwnG encP 47 w' w.heap.size u (back frm L) ∧ w.grownBy w' none := by
  obtain ⟨i0, hi, hz0, hz1, hz2⟩ := info_parts info_leg
  have HV := Lib.hid hv
  have HOK := Lib.hid hv.ok
  have HW : Hid (OwnG encP 47 (w.alloc (.cells #[] 47 (0, 0))) w.heap.size (.slice (some ⟨w.heap.size, 0, none⟩) 0 0) []) := ownG_empty w
  have HG := Lib.hid (World.grownBy_alloc w (.cells #[] 47 (0, 0)) (none : Option Nat))
  obtain ⟨a, cap, rfl, _⟩ := hv
  by_cases h0 : L.length = 0
  · have hL0 : L = [] := List.eq_nil_of_length_eq_zero h0
    subst hL0
    have HB : Hid (back frm [] = []) := by show _ = _; rfl
    go_enter Try.func20, Try.ntmps20
    go_wp2
    refine wp_loop_rounds 1 ?_
    rw [rounds_succ]
    go_wp2
    go_ret
    exact ⟨_, rfl, by rw [HB.out]; exact HW.out, HG.out⟩
  · have hpos : 0 < L.length := by omega
    have hposI : (0 : Int) < (L.length : Int) := by omega
    have HB := Lib.hid (backTo_last (frm := frm) hpos)
    have HFR := Lib.hid hf
    clear hf h0
    go_enter Try.func20, Try.ntmps20
    go_wp2
    go_loopw [5, 6] (fun u i wr => ∃ m : Nat, m + 1 ≤ L.length ∧ i = .int .i64 ((m : Int) - 1) ∧ Hid (OwnG encP 47 wr w.heap.size u (backTo frm L (L.length - 1 - m))) ∧ Hid (w.grownBy wr none)) (fun _ i _ => (intOf i + 1).toNat)
    case atStart => exact ⟨L.length - 1, by omega, by congr 1; omega, by rw [Nat.sub_self]; exact HW, HG⟩
    case round =>
      rename_i u _ wr
      obtain ⟨m, hm, rfl, HO, HGR⟩ := hrel
      cases m with
      | zero =>
        rw [Nat.sub_zero] at HO
        have HLN := Lib.hid (backTo_len frm L (L.length - 1))
        go_wp2_with (at_builtin; go_loud (refine wpListG_append_one (e := encP) _ rfl _ _ 37 rfl w.heap.size 47 i0 (.agg #[.int .i64 0, .int .i64 0]) 16 Try.underlying37 hi hz0 hz1 hz2 rfl _ (backTo frm L (L.length - 1)) rfl HO.out (frm, 0) #[.int .i64 frm, .int .i64 0] rfl rfl ⟨HFR.out, zero_wf⟩ (by have := HLN.out; omega) (by decide) HGR.out.size ?_); intro v4 w4 hown hgrow hloc; have HO4 := Lib.hid hown; have HG4 := Lib.hid (grown_new HGR.out hgrow (fun c hc => (HO.out.lt c hc).1)); clear hown hgrow hloc)
        go_ret
        exact ⟨_, rfl, by rw [HB.out]; exact HO4.out, HG4.out⟩
      | succ j =>
        have hj : j < L.length := by omega
        have he : ((j + 1 : Nat) : Int) - 1 = (j : Int) := by omega
        rw [he]
        obtain ⟨b, o, rfl, _, _⟩ := HV.out.at_row hj
        obtain ⟨x, hx⟩ : ∃ x, L.getD j (0, 0) = x := ⟨_, rfl⟩
        obtain ⟨d0, d1⟩ := atP_in HV.out HGR.out hj hx
        have hxw : (Lit.int .i64 x.1).wf = true := by rw [← hx]; exact (HOK.out _ (memG hj)).1
        have HXW := Lib.hid hxw
        have HN := Lib.hid (backTo_next (frm := frm) (L := L) (j := j) (by omega))
        rw [hx] at HN
        have HLN := Lib.hid (backTo_len frm L (L.length - 1 - (j + 1)))
        clear hx hxw
        obtain ⟨x0, x1⟩ := x
        dsimp only at d0 d1 HXW HN
        go_wp2_with (at_builtin; go_loud (refine wpListG_append_one (e := encP) _ rfl _ _ 37 rfl w.heap.size 47 i0 (.agg #[.int .i64 0, .int .i64 0]) 16 Try.underlying37 hi hz0 hz1 hz2 rfl _ (backTo frm L (L.length - 1 - (j + 1))) rfl HO.out (x0, 0) #[.int .i64 x0, .int .i64 0] rfl rfl ⟨HXW.out, zero_wf⟩ (by have := HLN.out; omega) (by decide) HGR.out.size ?_); intro v4 w4 hown hgrow hloc; have HO4 := Lib.hid hown; have HG4 := Lib.hid (grown_new HGR.out hgrow (fun c hc => (HO.out.lt c hc).1)); clear hown hgrow hloc)
        go_roundw
        case rel => exact ⟨j, by omega, by go_num, by rw [HN.out]; exact HO4, HG4⟩
        case measure => simp [intOf]
end Go.Proofs.Ytcecfipgpfbgcaa.Bck

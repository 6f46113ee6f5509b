/- Contracts of the model's three changes of stocks. -/
import Derived.Test.YtinpnedijmmpgaaStoS
import Derived.Deep.AppendLies
namespace Go.Proofs.Ytinpnedijmmpgaa.StoS
open Go.RowKit Kit Rw Rg Sto Md

theorem ret_c {u : Value} {a b : Bool} (h : a = b) : Ending.returned (.tuple #[u, .bool a]) = .returned (.tuple #[u, .bool b]) := by rw [h]
theorem info_stoS : (Try.prog.info? 46).map (fun i => (i.zero, i.size, i.bytes)) = some (some (.agg #[.int .i64 0, .int .i64 0, .int .i64 0]), 3, 24) := by kernel_rfl
/-- A row of the call's own that is not empty lies at a block's begin. -/
theorem own_at {E : TypeId} {w : World} {base un uc : Nat} {ua : Option Addr} {L : List I3} (h : OwnG enc3 E w base (.slice ua un uc) L) (h0 : 0 < L.length) : ∃ g, ua = some ⟨g, 0, none⟩ := by
  rcases h.1.2 with ⟨h, h'⟩ | ⟨g', cap', cur', h, _⟩
  · omega
  · injection h with h; exact ⟨g', h⟩

set_option maxRecDepth 20000 in
set_option maxHeartbeats 2000000 in
theorem sLend_any (w : World) (v : Value) (t n : Int) (L : List I3) (hv : SeesG enc3 w v L) (hn : L.length ≤ 1000000000) :
    Calls Try.prog 22 #[v, .int .i64 t, .int .i64 n] w fun e w' => ∃ u, e = .returned (.tuple #[u, .bool (lendOk L t n)]) ∧ OwnG enc3 46 w' w.heap.size u (lend L t n) ∧ w.grownBy w' none := by
  have hg0 := World.grownBy_alloc w (.cells #[] 46 (0, 0)) none
  have HV0 := Lib.hid hv
  have HV := Lib.hid (hv.grown hg0)
  have HW : Hid (OwnG enc3 46 (w.alloc (.cells #[] 46 (0, 0))) w.heap.size (.slice (some ⟨w.heap.size, 0, none⟩) 0 0) []) := ownG_empty w
  have HG := Lib.hid hg0
  have HF := Lib.hid (fun w h => sFind_any w v t L h)
  have HH := Lib.hid (fun w h => sHasIn_any w v t L h)
  obtain ⟨a, cap, rfl, _⟩ := hv
  clear hg0
  obtain ⟨i0, hi, hz0, hz1, hz2⟩ := info_parts info_stoS
  go_enter Try.func22, Try.ntmps22
  go_wp2_with (at_builtin; go_loud (refine wpListG_append_sees _ rfl _ _ 25 rfl w.heap.size 46 i0 (.agg #[.int .i64 0, .int .i64 0, .int .i64 0]) 24 Try.underlying25 hi hz0 hz1 hz2 rfl _ [] rfl HW.out _ L rfl HV.out (by unfold maxLen; simp; omega) (by simp; omega) HG.out.size ?_); intro v3 w3 hown3 hgrow3; rw [List.nil_append] at hown3; have HO3 := Lib.hid hown3; have HG3 := Lib.hid (grown_new HG.out hgrow3 (fun c hc => (HW.out.lt c hc).1)); clear hown3 hgrow3)
  clear HV HW HG
  obtain ⟨ua, un, uc, hu, HUN⟩ := HO3.out.sees.shape
  subst hu
  refine (HF.out _ (HV0.out.grown HG3.out)).mono ?_
  rintro e w4 ⟨rfl, hg⟩
  have HO4 := Lib.hid (HO3.out.grown hg)
  have HG4 := Lib.hid (grownN_trans HG3.out hg)
  clear hg HO3 HG3
  rcases find_hid L t with HFI | ⟨j, hj, HS, HX0, HFI⟩
  · have HNO : Hid (lendOk L t n = false) := by
      show _ = _
      have hz := stock_no HFI.out
      simp only [lendOk, hasIn, hz]
      exact decide_eq_false (by simp only [zI3]; omega)
    have HRES : Hid (lend L t n = L) := by show _ = _; unfold lend; rw [HNO.out]; rfl
    rw [HFI.out]
    go_wp2
    go_ret2
    exact ⟨_, ret_c HNO.out.symm, by rw [HRES.out]; exact HO4.out, HG4.out⟩
  · rw [HFI.out]
    have hj0 : ¬ (j : Int) < 0 := by omega
    have hju : j < un := by rw [← HUN.out]; exact hj
    have hjI : (j : Int) < (un : Int) := by omega
    have hjL : (j : Int) < (L.length : Int) := by omega
    have hj1 : (0 : Int) ≤ (j : Int) := by omega
    obtain ⟨rb, ro, rfl, _, _⟩ := HV0.out.at_row hj
    obtain ⟨x, hx⟩ : ∃ x, L.getD j zI3 = x := ⟨_, rfl⟩
    have hbd := sto_at HS.out hj
    have hst := stock_yes (t := t) HFI.out
    rw [hx] at hbd hst
    have HX := Lib.hid hx
    have HST := Lib.hid hst
    clear hx hst
    obtain ⟨x0, x1, x2⟩ := x
    dsimp only at hbd
    have HBD := Lib.hid hbd
    clear hbd
    have HOK : Hid (lendOk L t n = inb n 1 (x1 - x2)) := by show _ = _; unfold inb; simp only [lendOk, hasIn, HST.out]
    have HRES : Hid (lend L t n = if lendOk L t n = true then L.set j ⟨x0, x1, x2 + n⟩ else L) := by show _ = _; unfold lend put; rw [HST.out, HFI.out]; rfl
    obtain ⟨d0, d1, d2⟩ := at3_in HV0.out HG4.out hj HX.out
    dsimp only at d0 d1 d2
    have HLIM : Hid (hasIn L t = x1 - x2) := by show _ = _; unfold hasIn; rw [HST.out]
    go_wp2_with fail
    refine (HH.out _ (HV0.out.grown HG4.out)).mono ?_
    rintro e w5 ⟨rfl, hg⟩
    rw [HLIM.out]
    have HO5 := Lib.hid (HO4.out.grown hg)
    have HG5 := Lib.hid (grownN_trans HG4.out hg)
    obtain ⟨d0, d1, d2⟩ := at3_in HV0.out HG5.out hj HX.out
    dsimp only at d0 d1 d2
    clear hg HO4 HG4
    go_wp2_with fail
    refine (l1In_c _ _ _ _).mono ?_
    rintro e w6 ⟨rfl, rfl⟩
    cases hb : inb n 1 (x1 - x2)
    · rw [hb] at HOK
      clear hb
      go_wp2
      go_ret2
      exact ⟨_, ret_c HOK.out.symm, by rw [HRES.out, HOK.out]; exact HO5.out, HG5.out⟩
    · have hr : 1 ≤ n ∧ n ≤ x1 - x2 := of_decide_eq_true hb
      rw [hb] at HOK
      clear hb
      have hbd := HBD.out
      have hw : IntKind.i64.wrap (x2 + n) = x2 + n := IntWalk.i64_in _ (by omega)
      obtain ⟨g, rfl⟩ := own_at HO5.out (by omega)
      have hO5 := HO5.out
      have hxok := hO5.2 _ (memG (d := zI3) hj)
      rw [HX.out] at hxok
      have HP := Lib.hid (hO5.put3_2 HUN.out hj (a := x2 + n) (i64_mk (by omega)) HX.out)
      obtain ⟨z0, z1, z2⟩ := hO5.cell3 hj
      rw [HX.out] at z0 z1 z2
      dsimp only at z0 z1 z2
      have f2 := hO5.free (j * 3 + 2)
      clear hO5 hbd hxok hr
      go_wp2
      go_ret2
      exact ⟨_, ret_c HOK.out.symm, by rw [HRES.out, HOK.out, if_pos rfl]; exact HP.out.1, grown_new HG5.out HP.out.2 (fun c hc => by injection hc with hc; subst hc; exact (HO5.out.lt _ rfl).1)⟩

set_option maxRecDepth 20000 in
set_option maxHeartbeats 2000000 in
theorem sGiveBack_any (w : World) (v : Value) (t n : Int) (L : List I3) (hv : SeesG enc3 w v L) (hn : L.length ≤ 1000000000) :
    Calls Try.prog 26 #[v, .int .i64 t, .int .i64 n] w fun e w' => ∃ u, e = .returned (.tuple #[u, .bool (backOk L t n)]) ∧ OwnG enc3 46 w' w.heap.size u (back L t n) ∧ w.grownBy w' none := by
  have hg0 := World.grownBy_alloc w (.cells #[] 46 (0, 0)) none
  have HV0 := Lib.hid hv
  have HV := Lib.hid (hv.grown hg0)
  have HW : Hid (OwnG enc3 46 (w.alloc (.cells #[] 46 (0, 0))) w.heap.size (.slice (some ⟨w.heap.size, 0, none⟩) 0 0) []) := ownG_empty w
  have HG := Lib.hid hg0
  have HF := Lib.hid (fun w h => sFind_any w v t L h)
  have HH := Lib.hid (fun w h => sHasIn_any w v t L h)
  obtain ⟨a, cap, rfl, _⟩ := hv
  clear hg0
  obtain ⟨i0, hi, hz0, hz1, hz2⟩ := info_parts info_stoS
  go_enter Try.func26, Try.ntmps26
  go_wp2_with (at_builtin; go_loud (refine wpListG_append_sees _ rfl _ _ 25 rfl w.heap.size 46 i0 (.agg #[.int .i64 0, .int .i64 0, .int .i64 0]) 24 Try.underlying25 hi hz0 hz1 hz2 rfl _ [] rfl HW.out _ L rfl HV.out (by unfold maxLen; simp; omega) (by simp; omega) HG.out.size ?_); intro v3 w3 hown3 hgrow3; rw [List.nil_append] at hown3; have HO3 := Lib.hid hown3; have HG3 := Lib.hid (grown_new HG.out hgrow3 (fun c hc => (HW.out.lt c hc).1)); clear hown3 hgrow3)
  clear HV HW HG
  obtain ⟨ua, un, uc, hu, HUN⟩ := HO3.out.sees.shape
  subst hu
  refine (HF.out _ (HV0.out.grown HG3.out)).mono ?_
  rintro e w4 ⟨rfl, hg⟩
  have HO4 := Lib.hid (HO3.out.grown hg)
  have HG4 := Lib.hid (grownN_trans HG3.out hg)
  clear hg HO3 HG3
  rcases find_hid L t with HFI | ⟨j, hj, HS, HX0, HFI⟩
  · have HNO : Hid (backOk L t n = false) := by
      show _ = _
      have hz := stock_no HFI.out
      simp only [backOk, hz]
      exact decide_eq_false (by simp only [zI3]; omega)
    have HRES : Hid (back L t n = L) := by show _ = _; unfold back; rw [HNO.out]; rfl
    rw [HFI.out]
    go_wp2
    go_ret2
    exact ⟨_, ret_c HNO.out.symm, by rw [HRES.out]; exact HO4.out, HG4.out⟩
  · rw [HFI.out]
    have hj0 : ¬ (j : Int) < 0 := by omega
    have hju : j < un := by rw [← HUN.out]; exact hj
    have hjI : (j : Int) < (un : Int) := by omega
    have hjL : (j : Int) < (L.length : Int) := by omega
    have hj1 : (0 : Int) ≤ (j : Int) := by omega
    obtain ⟨rb, ro, rfl, _, _⟩ := HV0.out.at_row hj
    obtain ⟨x, hx⟩ : ∃ x, L.getD j zI3 = x := ⟨_, rfl⟩
    have hbd := sto_at HS.out hj
    have hst := stock_yes (t := t) HFI.out
    rw [hx] at hbd hst
    have HX := Lib.hid hx
    have HST := Lib.hid hst
    clear hx hst
    obtain ⟨x0, x1, x2⟩ := x
    dsimp only at hbd
    have HBD := Lib.hid hbd
    clear hbd
    have HOK : Hid (backOk L t n = inb n 1 (x2)) := by show _ = _; unfold inb; simp only [backOk, HST.out]
    have HRES : Hid (back L t n = if backOk L t n = true then L.set j ⟨x0, x1, x2 - n⟩ else L) := by show _ = _; unfold back put; rw [HST.out, HFI.out]; rfl
    obtain ⟨d0, d1, d2⟩ := at3_in HV0.out HG4.out hj HX.out
    dsimp only at d0 d1 d2
    have HO5 := HO4
    have HG5 := HG4
    clear HO4 HG4
    go_wp2_with fail
    refine (l1In_c _ _ _ _).mono ?_
    rintro e w6 ⟨rfl, rfl⟩
    cases hb : inb n 1 (x2)
    · rw [hb] at HOK
      clear hb
      go_wp2
      go_ret2
      exact ⟨_, ret_c HOK.out.symm, by rw [HRES.out, HOK.out]; exact HO5.out, HG5.out⟩
    · have hr : 1 ≤ n ∧ n ≤ x2 := of_decide_eq_true hb
      rw [hb] at HOK
      clear hb
      have hbd := HBD.out
      have hw : IntKind.i64.wrap (x2 - n) = x2 - n := IntWalk.i64_in _ (by omega)
      obtain ⟨g, rfl⟩ := own_at HO5.out (by omega)
      have hO5 := HO5.out
      have hxok := hO5.2 _ (memG (d := zI3) hj)
      rw [HX.out] at hxok
      have HP := Lib.hid (hO5.put3_2 HUN.out hj (a := x2 - n) (i64_mk (by omega)) HX.out)
      obtain ⟨z0, z1, z2⟩ := hO5.cell3 hj
      rw [HX.out] at z0 z1 z2
      dsimp only at z0 z1 z2
      have f2 := hO5.free (j * 3 + 2)
      clear hO5 hbd hxok hr
      go_wp2
      go_ret2
      exact ⟨_, ret_c HOK.out.symm, by rw [HRES.out, HOK.out, if_pos rfl]; exact HP.out.1, grown_new HG5.out HP.out.2 (fun c hc => by injection hc with hc; subst hc; exact (HO5.out.lt _ rfl).1)⟩

set_option maxRecDepth 20000 in
set_option maxHeartbeats 2000000 in
theorem sLose_any (w : World) (v : Value) (t n : Int) (L : List I3) (hv : SeesG enc3 w v L) (hn : L.length ≤ 1000000000) :
    Calls Try.prog 28 #[v, .int .i64 t, .int .i64 n] w fun e w' => ∃ u, e = .returned (.tuple #[u, .bool (backOk L t n)]) ∧ OwnG enc3 46 w' w.heap.size u (lose L t n) ∧ w.grownBy w' none := by
  have HV0 := Lib.hid hv
  have HF := Lib.hid (fun w h => sFind_any w v t L h)
  have HB := Lib.hid (sGiveBack_any w v t n L hv hn)
  obtain ⟨a, cap, rfl, _⟩ := hv
  go_enter Try.func28, Try.ntmps28
  go_wp2_with fail
  refine HB.out.mono ?_
  rintro e w3 ⟨u, rfl, ho, hg⟩
  have HO3 := Lib.hid ho
  have HG3 := Lib.hid hg
  obtain ⟨ua, un, uc, rfl, HUN⟩ := HO3.out.sees.shape
  clear ho hg HB
  cases hok : backOk L t n
  · have HRB : Hid (back L t n = L) := by show _ = _; unfold back; rw [hok]; rfl
    have HRL : Hid (lose L t n = L) := by show _ = _; unfold lose; rw [hok]; rfl
    rw [HRB.out] at HO3
    have HOKH := Lib.hid hok
    clear hok
    go_wp2
    go_ret2
    exact ⟨_, ret_c HOKH.out.symm, by rw [HRL.out]; exact HO3.out, HG3.out⟩
  · have hr : 1 ≤ n ∧ n ≤ (stock L t).x2 := of_decide_eq_true hok
    go_wp2_with fail
    refine (HF.out _ (HV0.out.grown HG3.out)).mono ?_
    rintro e w4 ⟨rfl, hg⟩
    have HO4 := Lib.hid (HO3.out.grown hg)
    have HG4 := Lib.hid (grownN_trans HG3.out hg)
    clear hg HO3 HG3
    rcases find_hid L t with HFI | ⟨j, hj, HS, HX0, HFI⟩
    · exfalso
      rw [stock_no HFI.out] at hr
      simp only [zI3] at hr
      omega
    · rw [HFI.out]
      have hj0 : ¬ (j : Int) < 0 := by omega
      have hul : (back L t n).length = un := HUN.out
      rw [back_len] at hul
      have hjI : (j : Int) < (un : Int) := by omega
      have hjL : (j : Int) < (L.length : Int) := by omega
      have hj1 : (0 : Int) ≤ (j : Int) := by omega
      obtain ⟨rb, ro, rfl, _, _⟩ := HV0.out.at_row hj
      obtain ⟨x, hx⟩ : ∃ x, L.getD j zI3 = x := ⟨_, rfl⟩
      have hbd := sto_at HS.out hj
      have hst := stock_yes (t := t) HFI.out
      rw [hx] at hbd hst
      rw [hst] at hr
      have HX := Lib.hid hx
      obtain ⟨x0, x1, x2⟩ := x
      dsimp only at hbd hr
      have HRB : Hid (back L t n = L.set j ⟨x0, x1, x2 - n⟩) := by show _ = _; unfold back put; rw [hok, hst, HFI.out]; rfl
      have HRL : Hid (lose L t n = (L.set j ⟨x0, x1, x2 - n⟩).set j ⟨x0, x1 - n, x2 - n⟩) := by show _ = _; unfold lose put; rw [hok, hst, HFI.out, List.set_set]; rfl
      rw [HRB.out] at HO4
      have hw : IntKind.i64.wrap (x1 - n) = x1 - n := IntWalk.i64_in _ (by omega)
      have hjs : j < (L.set j ⟨x0, x1, x2 - n⟩ : List I3).length := by simpa using hj
      obtain ⟨g, rfl⟩ := own_at HO4.out (by simp; omega)
      have hO4 := HO4.out
      have HP := Lib.hid (hO4.put3_1 (by simpa using hul) hjs (a := x1 - n) (i64_mk (by omega)) (set_getD hj))
      obtain ⟨z0, z1, z2⟩ := hO4.cell3 hjs
      rw [set_getD hj] at z0 z1 z2
      dsimp only at z0 z1 z2
      have f1 := hO4.free (j * 3 + 1)
      obtain ⟨d0, d1, d2⟩ := at3_in HV0.out HG4.out hj HX.out
      dsimp only at d0 d1 d2
      have HOKH := Lib.hid hok
      clear hO4 hbd hr hx hst hok hul
      go_wp2
      go_ret2
      exact ⟨_, ret_c HOKH.out.symm, by rw [HRL.out]; exact HP.out.1, grown_new HG4.out HP.out.2 (fun c hc => by injection hc with hc; subst hc; exact (HO4.out.lt _ rfl).1)⟩
end Go.Proofs.Ytinpnedijmmpgaa.StoS

/- Contracts of FlipFlash of the program and of its model. -/
import Derived.Test.YtinpnedijmmpgaaSig
import Derived.Test.YtinpnedijmmpgaaCloneI
import Derived.Laws.StructEq
import Derived.RangeFuncBox
namespace Go.Proofs.Ytinpnedijmmpgaa.Flp
open Go.RowKit Kit Rw Rg Sig SigI Md Mb

theorem seesI {w : World} {v : Value} {L : List Int} (h : Sees .i64 w v L) : SeesG encI w v L := by
  obtain ⟨a, c, e, h1, h2, h3, h4, h5⟩ := h
  refine ⟨a, c, e, h1, h2, h3, h4, ?_⟩
  rcases h5 with h5 | ⟨b, o, rfl, h6⟩
  · exact .inl h5
  · refine .inr ⟨b, o, rfl, fun j hj => ?_⟩
    have hj' : j < L.length := by simpa [encI] using hj
    rw [h6 j hj']
    have := flat_at (e := encI) (L := L) (j := j) (i := 0) hj' (by decide)
    simp only [encI, Nat.mul_one, Nat.add_zero] at this
    exact this.symm
theorem flat_int : ∀ L : List Int, flat encI L = L.map (Value.int .i64)
  | [] => rfl
  | x :: L => by rw [flat_cons, flat_int L]; rfl
theorem ownI {E : TypeId} {w : World} {base : Nat} {v : Value} {L : List Int} (h : OwnG encI E w base v L) : Rw.Own .i64 E w base v L := by
  refine ⟨?_, h.2⟩
  have h1 := h.1
  rw [flat_int] at h1
  exact h1
/-- Where a row of ints that the call owns is stored into. -/
theorem flip_set {w : World} {base g n cap : Nat} {L : List Int} (h : OwnG encI 3 w base (.slice (some ⟨g, 0, none⟩) n cap) L) (hn : L.length = n) {j : Nat} (hj : j < L.length) {x : Int} (hx : (Lit.int .i64 x).wf = true) :
    OwnG encI 3 (w.setCell ⟨g, j, none⟩ (.int .i64 x)) base (.slice (some ⟨g, 0, none⟩) n cap) (L.set j x) ∧ w.grownBy (w.setCell ⟨g, j, none⟩ (.int .i64 x)) (some g) := by
  have := h.put hn (j := j) (i := 0) (u := .int .i64 x) (x := x) hj (by decide) rfl hx
  simpa [encI] using this
theorem own_at {w : World} {base : Nat} {v : Value} {L : List Int} (h : OwnG encI 3 w base v L) (hL : 0 < L.length) : ∃ g cap, v = .slice (some ⟨g, 0, none⟩) L.length cap := by
  obtain ⟨k, hk⟩ : ∃ k, L.length = k + 1 := ⟨L.length - 1, by omega⟩
  have h1 := h.1
  rw [hk] at h1 ⊢
  exact ownsRow_succ h1
theorem inR_any (n l h : Int) (w : World) : Calls Try.prog 59 #[.int .i64 n, .int .i64 l, .int .i64 h] w fun e w' => e = .returned (.bool (decide (l ≤ n ∧ n ≤ h))) ∧ w = w' := by
  by_cases h1 : l ≤ n
  · by_cases h2 : n ≤ h
    · go_enter Try.func59, Try.ntmps59
      go_wp2
      go_ret
      exact ⟨by simp [h1, h2], rfl⟩
    · go_enter Try.func59, Try.ntmps59
      go_wp2
      go_ret
      exact ⟨by simp [h2], rfl⟩
  · go_enter Try.func59, Try.ntmps59
    go_wp2
    go_ret
    exact ⟨by simp; omega, rfl⟩
theorem flash_any (b : Bool) (w : World) : Calls Try.prog 61 #[.bool b] w fun e w' => e = .returned (.int .i64 (if b then 2 else 1)) ∧ w = w' := by
  cases b
  · go_enter Try.func61, Try.ntmps61
    go_wp2
    go_ret
    exact ⟨rfl, rfl⟩
  · go_enter Try.func61, Try.ntmps61
    go_wp2
    go_ret
    exact ⟨rfl, rfl⟩
theorem run_eqSym (w : World) (x y : Int) : (Op.equalIn 10000 59 (.agg #[.int .i64 x, .int .i64 y]) (.agg #[.int .i64 0, .int .i64 0])).run Try.prog w = .ok (decide (x = 0) && decide (y = 0)) w := by
  rw [run_equalIn_agg w 9999 59 _ _ (by kernel_rfl) (by kernel_rfl)]
  have hf : (Try.prog.fieldsOf 59).toList.map (fun f => (f.name == "_", f.type, f.offset)) = [(false, 3, 0), (false, 3, 1)] := by kernel_rfl
  generalize (Try.prog.fieldsOf 59).toList = fs at hf
  obtain ⟨f0, f1, rfl⟩ : ∃ f0 f1, fs = [f0, f1] := by
    have hl : fs.length = 2 := by simpa using congrArg List.length hf
    match fs, hl with
    | [a, b], _ => exact ⟨a, b, rfl⟩
  simp only [List.map_cons, List.map_nil, List.cons.injEq, Prod.mk.injEq, and_true] at hf
  obtain ⟨⟨n0, t0, o0⟩, ⟨n1, t1, o1⟩⟩ := hf
  have hn : ∀ s : String, (s == "_") = false → s ≠ "_" := fun s h => by simpa using h
  simp [Op.eqFields, hn _ n0, hn _ n1, t0, t1, o0, o1, go_sem, Try.underlying3]
  by_cases hx : x = 0 <;> by_cases hy : y = 0 <;> simp [hx, hy]
set_option maxRecDepth 20000 in
set_option maxHeartbeats 1000000 in
theorem iFlip_any (w : World) (v : Value) (L : List Int) (i : Int) (hi : (Lit.int .i64 i).wf = true) (hv : Sees .i64 w v L) (hL : L.length ≤ 1000000000) :
    Calls Try.prog 37 #[v, .int .i64 i] w fun e w' => ∃ u, e = .returned u ∧ OwnG encI 3 w' w.heap.size u (Sig.flip L i) ∧ w.grownBy w' none := by
  obtain ⟨a, n, c, rfl, HN⟩ := hv.shape
  have HV := Lib.hid hv
  have HL := Lib.hid hL
  clear hv
  go_enter Try.func37, Try.ntmps37
  go_wp2_with fail
  refine (Cln.cloneI_any _ _ L (seesI HV.out) HL.out).mono ?_
  rintro e w1 ⟨u, rfl, ho, hg⟩
  have HO := Lib.hid ho
  have HG := Lib.hid hg
  obtain ⟨ua, un, uc, rfl, HUN⟩ := ho.sees.shape
  have hun : n = un := by rw [← HUN.out, HN.out]
  subst hun
  clear ho hg
  have hnl : IntKind.i64.wrap ((n : Int) - 1) = (n : Int) - 1 := IntWalk.i64_in _ (by have := HN.out; have := HL.out; omega)
  have HIN := Lib.hid (fun w => inR_any i 0 ((n : Int) - 1) w)
  by_cases hr : 0 ≤ i ∧ i ≤ (n : Int) - 1
  · rw [decide_eq_true hr] at HIN
    obtain ⟨j, rfl⟩ : ∃ j : Nat, i = j := ⟨i.toNat, by omega⟩
    have hjn : j < n := by omega
    obtain ⟨b, o, rfl, hcell⟩ := (HV.out.grown HG.out).at_row (j := j) (by rw [HN.out]; exact hjn)
    obtain ⟨x, hx⟩ : ∃ x, x = L.getD j 0 := ⟨_, rfl⟩
    rw [← hx] at hcell
    have HX := Lib.hid hx
    have HSY := Lib.hid (fun w => symbol_any x w)
    clear hx
    go_wp2_with fail
    refine (HIN.out _).mono ?_
    rintro e w' ⟨rfl, rfl⟩
    go_wp2_with fail
    refine (HSY.out _).mono ?_
    rintro e w2 ⟨rfl, hg⟩
    have hq := fun (w : World) (x y : Int) => run_eqSym w x y
    have HG2 := Lib.hid (grownN_trans HG.out hg)
    have HO2 := Lib.hid (HO.out.grown hg)
    clear hg hcell
    obtain ⟨b', o', e', hcell⟩ := (HV.out.grown HG2.out).at_row (j := j) (by rw [HN.out]; exact hjn)
    injection e' with e'; injection e' with e1 e2; subst e1 e2
    rw [← HX.out] at hcell
    by_cases h1 : x = 1
    · subst h1
      have hd : digitOf 1 = 0 := rfl
      have ht : timeOf 1 = 1 := rfl
      obtain ⟨g, uc', e'⟩ := own_at HO2.out (by rw [HN.out]; omega)
      injection e' with e1 e2 e3; subst e1 e3; clear e2
      have HFL := Lib.hid (fun w => flash_any true w)
      have hcu : w2.cell? ⟨g, j, none⟩ = some (.int .i64 1) := by
        have := HO2.out.cellAt (j := j) (by rw [HN.out]; exact hjn) (i := 0) (by decide)
        have h0 : L.getD j encI.dflt = 1 := HX.out.symm
        rw [h0] at this
        simpa [encI] using this
      have hfu := HO2.out.free j
      have HST := Lib.hid (flip_set HO2.out HN.out (j := j) (by rw [HN.out]; exact hjn) (x := 2) rfl)
      have HF : Hid (Sig.flip L (j : Int) = L.set j 2) := by
        have h0 : L.getD j 0 = 1 := HX.out.symm
        unfold Sig.flip
        rw [if_pos ⟨by rw [HN.out]; exact hr, by rw [Int.toNat_natCast, h0]; decide⟩, Int.toNat_natCast, h0]; rfl
      go_wp2_with fail
      refine (HFL.out _).mono ?_
      rintro e w' ⟨rfl, rfl⟩
      go_wp2
      go_ret
      exact ⟨_, rfl, by rw [HF.out]; exact HST.out.1, grown_new HG2.out HST.out.2 (fun c e => by injection e with e; exact e ▸ (HO2.out.lt g rfl).1)⟩
    · by_cases h2 : x = 2
      · subst h2
        have hd : digitOf 2 = 1 := rfl
        have ht : timeOf 2 = 3 := rfl
        obtain ⟨g, uc', e'⟩ := own_at HO2.out (by rw [HN.out]; omega)
        injection e' with e1 e2 e3; subst e1 e3; clear e2
        have HFL := Lib.hid (fun w => flash_any false w)
        have hcu : w2.cell? ⟨g, j, none⟩ = some (.int .i64 2) := by
          have := HO2.out.cellAt (j := j) (by rw [HN.out]; exact hjn) (i := 0) (by decide)
          have h0 : L.getD j encI.dflt = 2 := HX.out.symm
          rw [h0] at this
          simpa [encI] using this
        have hfu := HO2.out.free j
        have HST := Lib.hid (flip_set HO2.out HN.out (j := j) (by rw [HN.out]; exact hjn) (x := 1) rfl)
        have HF : Hid (Sig.flip L (j : Int) = L.set j 1) := by
          have h0 : L.getD j 0 = 2 := HX.out.symm
          unfold Sig.flip
          rw [if_pos ⟨by rw [HN.out]; exact hr, by rw [Int.toNat_natCast, h0]; decide⟩, Int.toNat_natCast, h0]; rfl
        go_wp2_with fail
        refine (HFL.out _).mono ?_
        rintro e w' ⟨rfl, rfl⟩
        go_wp2
        go_ret
        exact ⟨_, rfl, by rw [HF.out]; exact HST.out.1, grown_new HG2.out HST.out.2 (fun c e => by injection e with e; exact e ▸ (HO2.out.lt g rfl).1)⟩
      · have hd : digitOf x = 0 := by unfold digitOf; rw [if_neg h2]
        have ht : timeOf x = 0 := by unfold timeOf; rw [if_neg h1, if_neg h2]
        have HF : Hid (Sig.flip L (j : Int) = L) := by
          show _ = _
          unfold Sig.flip
          refine if_neg ?_
          rintro ⟨_, h3, h4⟩
          rw [Int.toNat_natCast, ← HX.out] at h3 h4
          omega
        rw [hd, ht] at *
        go_wp2
        go_ret
        exact ⟨_, rfl, by rw [HF.out]; exact HO2.out, HG2.out⟩
  · rw [decide_eq_false hr] at HIN
    have HF : Hid (Sig.flip L i = L) := by show _ = _; unfold Sig.flip; exact if_neg (fun h => hr (by rw [← HN.out]; exact h.1))
    go_wp2_with fail
    refine (HIN.out _).mono ?_
    rintro e w' ⟨rfl, rfl⟩
    go_wp2
    go_ret
    exact ⟨_, rfl, by rw [HF.out]; exact HO.out, HG.out⟩
theorem l1In_any (n l h : Int) (w : World) : Calls Try.prog 48 #[.int .i64 n, .int .i64 l, .int .i64 h] w fun e w' => e = .returned (.bool (decide (l ≤ n ∧ n ≤ h))) ∧ w = w' := by
  by_cases h1 : l ≤ n
  · by_cases h2 : n ≤ h
    · go_enter Try.func48, Try.ntmps48
      go_wp2
      go_ret
      exact ⟨by simp [h1, h2], rfl⟩
    · go_enter Try.func48, Try.ntmps48
      go_wp2
      go_ret
      exact ⟨by simp [h2], rfl⟩
  · go_enter Try.func48, Try.ntmps48
    go_wp2
    go_ret
    exact ⟨by simp; omega, rfl⟩
set_option maxRecDepth 20000 in
set_option maxHeartbeats 1000000 in
theorem sFlip_any (w : World) (v : Value) (L : List Int) (i : Int) (hi : (Lit.int .i64 i).wf = true) (hv : Sees .i64 w v L) (hL : L.length ≤ 1000000000) :
    Calls Try.prog 36 #[v, .int .i64 i] w fun e w' => ∃ u, e = .returned u ∧ OwnG encI 3 w' w.heap.size u (Sig.flip L i) ∧ w.grownBy w' none := by
  have hg0 := World.grownBy_alloc w (.cells #[] 3 (0, 0)) none
  obtain ⟨a, n, c, rfl, HN⟩ := hv.shape
  have HSV := Lib.hid hv
  have HV := Lib.hid (seesI (hv.grown hg0))
  have HW : Hid (OwnG encI 3 (w.alloc (.cells #[] 3 (0, 0))) w.heap.size (.slice (some ⟨w.heap.size, 0, none⟩) 0 0) []) := ownG_empty w
  have HG := Lib.hid hg0
  have HL := Lib.hid hL
  clear hg0 hv
  have hnl : IntKind.i64.wrap ((n : Int) - 1) = (n : Int) - 1 := IntWalk.i64_in _ (by have := HN.out; have := HL.out; omega)
  obtain ⟨i0, hi0, hz0, hz1, hz2⟩ := info_parts Cln.info_intC
  go_enter Try.func36, Try.ntmps36
  go_wp2_with (at_builtin; go_loud (refine wpListG_append_sees _ rfl _ _ 35 rfl w.heap.size 3 i0 (.int .i64 0) 8 Try.underlying35 hi0 hz0 hz1 hz2 rfl _ [] rfl HW.out _ L rfl HV.out (by unfold maxLen; simp; omega) (by simp; omega) HG.out.size ?_); intro v3 w3 hown3 hgrow3; rw [List.nil_append] at hown3; have HO3 := Lib.hid hown3; have HG3 := Lib.hid (grown_new HG.out hgrow3 (fun c hc => (HW.out.lt c hc).1)); clear hown3 hgrow3)
  obtain ⟨ua, un, uc, rfl, HUN⟩ := HO3.out.sees.shape
  have hun : n = un := by rw [← HUN.out, HN.out]
  subst hun
  have HIN := Lib.hid (fun w => l1In_any i 0 ((n : Int) - 1) w)
  by_cases hr : 0 ≤ i ∧ i ≤ (n : Int) - 1
  · rw [decide_eq_true hr] at HIN
    obtain ⟨j, rfl⟩ : ∃ j : Nat, i = j := ⟨i.toNat, by omega⟩
    have hjn : j < n := by omega
    obtain ⟨b, o, rfl, hcell⟩ := (HSV.out.grown HG3.out).at_row (j := j) (by rw [HN.out]; exact hjn)
    obtain ⟨x, hx⟩ : ∃ x, x = L.getD j 0 := ⟨_, rfl⟩
    rw [← hx] at hcell
    have HX := Lib.hid hx
    have HSY := Lib.hid (fun w => l1In_any x 1 2 w)
    clear hx
    refine (HIN.out _).mono ?_
    rintro e w' ⟨rfl, rfl⟩
    go_wp2_with fail
    by_cases h1 : 1 ≤ x ∧ x ≤ 2
    · rw [decide_eq_true h1] at HSY
      refine (HSY.out _).mono ?_
      rintro e w' ⟨rfl, rfl⟩
      obtain ⟨g, uc', e'⟩ := own_at HO3.out (by rw [HN.out]; omega)
      injection e' with e1 e2 e3; subst e1 e3; clear e2
      have hcu : w3.cell? ⟨g, j, none⟩ = some (.int .i64 x) := by
        have := HO3.out.cellAt (j := j) (by rw [HN.out]; exact hjn) (i := 0) (by decide)
        have h0 : L.getD j encI.dflt = x := HX.out.symm
        rw [h0] at this
        simpa [encI] using this
      have hfu := HO3.out.free j
      have hwx : IntKind.i64.wrap (3 - x) = 3 - x := IntWalk.i64_in _ (by omega)
      have HST := Lib.hid (flip_set HO3.out HN.out (j := j) (by rw [HN.out]; exact hjn) (x := 3 - x) (i64_mk (by omega)))
      have HF : Hid (Sig.flip L (j : Int) = L.set j (3 - x)) := by
        have h0 : L.getD j 0 = x := HX.out.symm
        show _ = _
        unfold Sig.flip
        rw [if_pos ⟨by rw [HN.out]; exact hr, by rw [Int.toNat_natCast, h0]; exact h1⟩, Int.toNat_natCast, h0]
      go_wp2
      go_ret
      exact ⟨_, rfl, by rw [HF.out]; exact HST.out.1, grown_new HG3.out HST.out.2 (fun c e => by injection e with e; exact e ▸ (HO3.out.lt g rfl).1)⟩
    · rw [decide_eq_false h1] at HSY
      refine (HSY.out _).mono ?_
      rintro e w' ⟨rfl, rfl⟩
      have HF : Hid (Sig.flip L (j : Int) = L) := by
        show _ = _
        unfold Sig.flip
        refine if_neg ?_
        rintro ⟨_, h3, h4⟩
        rw [Int.toNat_natCast, ← HX.out] at h3 h4
        omega
      go_wp2
      go_ret
      exact ⟨_, rfl, by rw [HF.out]; exact HO3.out, HG3.out⟩
  · rw [decide_eq_false hr] at HIN
    have HF : Hid (Sig.flip L i = L) := by show _ = _; unfold Sig.flip; exact if_neg (fun h => hr (by rw [← HN.out]; exact h.1))
    refine (HIN.out _).mono ?_
    rintro e w' ⟨rfl, rfl⟩
    go_wp2
    go_ret
    exact ⟨_, rfl, by rw [HF.out]; exact HO3.out, HG3.out⟩
/-- As the laws want it: a row of ints. -/
theorem iFlipL (w : World) (v : Value) (L : List Int) (i : Int) (hi : (Lit.int .i64 i).wf = true) (hv : Sees .i64 w v L) (hL : L.length ≤ 1000000000) :
    Calls Try.prog 37 #[v, .int .i64 i] w fun e w' => ∃ u, e = .returned u ∧ Rw.Own .i64 3 w' w.heap.size u (Sig.flip L i) ∧ w.grownBy w' none :=
  (iFlip_any w v L i hi hv hL).mono fun _ _ ⟨u, h1, h2, h3⟩ => ⟨u, h1, ownI h2, h3⟩
theorem sFlipL (w : World) (v : Value) (L : List Int) (i : Int) (hi : (Lit.int .i64 i).wf = true) (hv : Sees .i64 w v L) (hL : L.length ≤ 1000000000) :
    Calls Try.prog 36 #[v, .int .i64 i] w fun e w' => ∃ u, e = .returned u ∧ Rw.Own .i64 3 w' w.heap.size u (Sig.flip L i) ∧ w.grownBy w' none :=
  (sFlip_any w v L i hi hv hL).mono fun _ _ ⟨u, h1, h2, h3⟩ => ⟨u, h1, ownI h2, h3⟩
end Go.Proofs.Ytinpnedijmmpgaa.Flp

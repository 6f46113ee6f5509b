/- Contracts of a party's text, of the program and of its model. -/
import Derived.Test.YtoanhnklemlfmaaDoorCtx
import Derived.Test.YtoanhnklemlfmaaDoorPtx
import Derived.Test.YtoanhnklemlfmaaDoorPa
import Derived.Deep.RegionHeldLaw
namespace Go.Proofs.YtoanhnklemlfmaaDoor.Ptt
open Go.RowKit Kit Rw Rg Ld Crw Four Pa Txt Ctx

theorem isParty_of {W H : Int} {X : List Int} {n f : Int} {L : List Mem} {P : List Bool} (h : isParty W H X n f L P = true) : (0 ≤ f ∧ f ≤ 10000) ∧ P.length ≤ 10 ∧ L.length ≤ 8 := by
  unfold isParty at h
  simp only [Bool.and_eq_true, decide_eq_true_eq] at h
  obtain ⟨_, h2, h3, h4⟩ := h
  unfold areCrew at h2
  simp only [Bool.and_eq_true, decide_eq_true_eq] at h2
  exact ⟨h3, h4, h2.1.2⟩
noncomputable def parts (W H : Int) (X : List Int) (n f : Int) (L : List Mem) (P : List Bool) : List ByteArray := [cellT W H X n, num f, num L.length, num (needOf L), num (capOf L), Ptx.past P]
noncomputable def partyT (W H : Int) (X : List Int) (n f : Int) (L : List Mem) (P : List Bool) : ByteArray := if isParty W H X n f L P = true then joinB ⟨#[32]⟩ (parts W H X n f L P) else ⟨#[]⟩
theorem party_no {W H : Int} {X : List Int} {n f : Int} {L : List Mem} {P : List Bool} (h : isParty W H X n f L P = false) : partyT W H X n f L P = ⟨#[]⟩ := if_neg (by rw [h]; simp)
theorem party_yes {W H : Int} {X : List Int} {n f : Int} {L : List Mem} {P : List Bool} (h : isParty W H X n f L P = true) : partyT W H X n f L P = joinB ⟨#[32]⟩ (parts W H X n f L P) := if_pos h
theorem past_size {P : List Bool} (h : P.length ≤ 10) : (Ptx.past P).size ≤ 40 := by
  by_cases h0 : P.length = 0
  · rw [Ptx.past_no h0]; show 1 ≤ 40; omega
  · rw [Ptx.past_yes h0, Ptx.text_size]; omega
theorem one (b : UInt8) : (⟨#[b]⟩ : ByteArray).size = 1 := rfl
theorem empty_app (a : ByteArray) : (⟨#[]⟩ : ByteArray) ++ a = a := by
  apply ByteArray.ext
  rw [app_data, Array.empty_append]
theorem join6 (a b c d e g : ByteArray) : joinB ⟨#[32]⟩ [a, b, c, d, e, g] = a ++ ⟨#[32]⟩ ++ b ++ ⟨#[32]⟩ ++ c ++ ⟨#[32]⟩ ++ d ++ ⟨#[32]⟩ ++ e ++ ⟨#[32]⟩ ++ g := by
  show (((((⟨#[]⟩ ++ a) ++ ⟨#[32]⟩) ++ b ++ ⟨#[32]⟩) ++ c ++ ⟨#[32]⟩) ++ d ++ ⟨#[32]⟩) ++ e ++ ⟨#[32]⟩ ++ g = _
  rw [empty_app]

set_option maxRecDepth 100000 in
set_option maxHeartbeats 8000000 in
theorem iParty_any (w : World) (W H : Int) (x : Value) (X : List Int) (n f : Int) (cv pv : Value) (L : List Mem) (P : List Bool) (hx : Sees .i64 w x X) (hc : SeesG encM w cv L) (hp : SeesG encB w pv P) (htab : Fmt.Pow10 w) :
    Calls Tryd.prog 28 #[.agg #[.int .i64 W, .int .i64 H, x], .agg #[.int .i64 n, .int .i64 f, cv, pv]] w fun e w' => e = .returned (.string (partyT W H X n f L P)) ∧ w.grownBy w' none := by
  obtain ⟨xa, xn, xc, rfl, HXN⟩ := hx.shape
  obtain ⟨ca, cn, cc, rfl, HCN⟩ := hc.shape
  obtain ⟨pa, pn, pc, rfl, HPN⟩ := hp.shape
  have ga := World.grownBy_alloc w (.cells #[.int .i64 W, .int .i64 H, .slice xa xn xc] 27 (0, 0)) (none : Option Nat)
  have gb := World.grownBy_alloc (w.alloc (.cells #[.int .i64 W, .int .i64 H, .slice xa xn xc] 27 (0, 0))) (.cells #[.int .i64 n, .int .i64 f, .slice ca cn cc, .slice pa pn pc] 45 (0, 0)) (none : Option Nat)
  have ba := (box_new w #[.int .i64 W, .int .i64 H, .slice xa xn xc] 27).grown gb
  have bb := box_new (w.alloc (.cells #[.int .i64 W, .int .i64 H, .slice xa xn xc] 27 (0, 0))) #[.int .i64 n, .int .i64 f, .slice ca cn cc, .slice pa pn pc] 45
  rw [World.size_alloc] at bb
  have gg := grownN_trans ga gb
  have HG := Lib.hid gg
  have HX := Lib.hid (hx.grown gg)
  have HC := Lib.hid (hc.grown gg)
  have HP := Lib.hid (hp.grown gg)
  have HBA := Lib.hid ba
  have HBB := Lib.hid bb
  have HT := Lib.hid (pow_grown htab gg)
  obtain ⟨c0, c1, c2⟩ := ba.three
  obtain ⟨d0, d1, d2, d3⟩ := four bb
  have his := Pa.iIsParty_any _ W H _ X n f _ _ L P (hx.grown gg) (hc.grown gg) (hp.grown gg)
  cases h : isParty W H X n f L P
  · rw [h] at his
    have HI := Lib.hid his
    have HR : Hid (partyT W H X n f L P = ⟨#[]⟩) := party_no h
    clear his h ga gb gg ba bb hx hc hp
    go_enter Tryd.func28, Tryd.ntmps28
    go_wp2_with fail
    refine HI.out.mono ?_
    rintro e w2 ⟨rfl, hg⟩
    have HG2 := Lib.hid (grownN_trans HG.out hg)
    clear hg
    go_wp2
    go_ret
    exact ⟨ret_s HR.out.symm, HG2.out⟩
  · rw [h] at his
    have HI := Lib.hid his
    obtain ⟨hf, hpl, hll⟩ := isParty_of h
    have nb := needOf_bound L
    have cb := capOf_bound L
    rw [HCN.out] at hll
    obtain ⟨t0, ht0⟩ : ∃ t, t = cellT W H X n := ⟨_, rfl⟩
    obtain ⟨t1, ht1⟩ : ∃ t, t = num f := ⟨_, rfl⟩
    obtain ⟨t2, ht2⟩ : ∃ t, t = num cn := ⟨_, rfl⟩
    obtain ⟨k3, hk3⟩ : ∃ k, k = needOf L := ⟨_, rfl⟩
    obtain ⟨k4, hk4⟩ : ∃ k, k = capOf L := ⟨_, rfl⟩
    obtain ⟨t3, ht3⟩ : ∃ t, t = num k3 := ⟨_, rfl⟩
    obtain ⟨t4, ht4⟩ : ∃ t, t = num k4 := ⟨_, rfl⟩
    obtain ⟨t5, ht5⟩ : ∃ t, t = Ptx.past P := ⟨_, rfl⟩
    have z0 : t0.size ≤ 40 := by rw [ht0]; exact cell_size W H X n
    have z1 : t1.size ≤ 40 := by rw [ht1]; have := num_size (n := f) (by omega) (by omega); omega
    have z2 : t2.size ≤ 40 := by rw [ht2]; have := num_size (n := (cn : Int)) (by omega) (by omega); omega
    have z3 : t3.size ≤ 40 := by rw [ht3]; have := num_size (n := k3) (by omega) (by omega); omega
    have z4 : t4.size ≤ 40 := by rw [ht4]; have := num_size (n := k4) (by omega) (by omega); omega
    have z5 : t5.size ≤ 40 := by rw [ht5]; exact past_size hpl
    have HPR : Hid (partyT W H X n f L P = joinB ⟨#[32]⟩ [t0, t1, t2, t3, t4, t5]) := by show _ = _; rw [party_yes h, parts, HCN.out, ← hk3, ← hk4, ← ht0, ← ht1, ← ht2, ← ht3, ← ht4, ← ht5]
    have hq0 := fun W' hX ht => Ctx.iCell_any W' W H n (.slice xa xn xc) X hX ht
    have hq1 := fun W' ht => Ctx.iNum_any W' f (by omega) ht
    have hq2 := fun W' ht => Ctx.iNum_any W' (cn : Int) (by omega) ht
    have hq3 := fun W' hX => CrI.iNeedOf_any W' (.slice ca cn cc) L hX
    have hq4 := fun W' ht => Ctx.iNum_any W' k3 (by omega) ht
    have hq5 := fun W' hX => CrI.iCapOf_any W' (.slice ca cn cc) L hX
    have hq6 := fun W' ht => Ctx.iNum_any W' k4 (by omega) ht
    have hq7 := fun W' hX => Ptx.iPast_any W' (.slice pa pn pc) P hX (by omega)
    rw [← ht0] at hq0
    rw [← ht1] at hq1
    rw [← ht2] at hq2
    rw [← hk3] at hq3
    rw [← ht3] at hq4
    rw [← hk4] at hq5
    rw [← ht4] at hq6
    rw [← ht5] at hq7
    have C0 := Lib.hid hq0
    have C1 := Lib.hid hq1
    have C2 := Lib.hid hq2
    have C3 := Lib.hid hq3
    have C4 := Lib.hid hq4
    have C5 := Lib.hid hq5
    have C6 := Lib.hid hq6
    have C7 := Lib.hid hq7
    have HZ : Hid (∀ x ∈ [t0, t1, t2, t3, t4, t5], x.size ≤ 100) := by
      intro x hx
      simp only [List.mem_cons, List.not_mem_nil, or_false] at hx
      rcases hx with rfl | rfl | rfl | rfl | rfl | rfl <;> omega
    clear his h ga gb gg ba bb hx hc hp hf hpl hll nb cb ht0 ht1 ht2 ht3 ht4 ht5 hk3 hk4 hq0 hq1 hq2 hq3 hq4 hq5 hq6 hq7 z0 z1 z2 z3 z4 z5
    go_enter Tryd.func28, Tryd.ntmps28
    go_wp2_with fail
    generalize (w.alloc (.cells #[.int .i64 W, .int .i64 H, .slice xa xn xc] 27 (0, 0))).alloc (.cells #[.int .i64 n, .int .i64 f, .slice ca cn cc, .slice pa pn pc] 45 (0, 0)) = W2 at *
    refine HI.out.mono ?_
    rintro e w2 ⟨rfl, hg⟩
    have HW := Lib.hid (grown_drewN (n := 1) hg)
    have HD : Hid (∀ W', W2.grownBy W' none → (W'.cell? ⟨w.heap.size, 0, none⟩ = some (.int .i64 W) ∧ W'.cell? ⟨w.heap.size, 1, none⟩ = some (.int .i64 H) ∧ W'.cell? ⟨w.heap.size, 2, none⟩ = some (.slice xa xn xc)) ∧ W'.cell? ⟨w.heap.size + 1, 0, none⟩ = some (.int .i64 n) ∧ W'.cell? ⟨w.heap.size + 1, 1, none⟩ = some (.int .i64 f) ∧ W'.cell? ⟨w.heap.size + 1, 2, none⟩ = some (.slice ca cn cc) ∧ W'.cell? ⟨w.heap.size + 1, 3, none⟩ = some (.slice pa pn pc)) := fun W' hgg => ⟨(HBA.out.grown hgg).three, four (HBB.out.grown hgg)⟩
    have HQ0 := Lib.hid (grownN_trans hg (grown_drew (World.grownBy.refl w2 none)))
    clear hg c0 c1 c2 d0 d1 d2 d3 HW HI
    go_wp2_with fail
    go_region_held_law (fun w' => (w'.cell? ⟨w.heap.size, 0, none⟩ = some (.int .i64 W) ∧ w'.cell? ⟨w.heap.size, 1, none⟩ = some (.int .i64 H) ∧ w'.cell? ⟨w.heap.size, 2, none⟩ = some (.slice xa xn xc)) ∧ w'.cell? ⟨w.heap.size + 1, 0, none⟩ = some (.int .i64 n) ∧ w'.cell? ⟨w.heap.size + 1, 1, none⟩ = some (.int .i64 f) ∧ w'.cell? ⟨w.heap.size + 1, 2, none⟩ = some (.slice ca cn cc) ∧ w'.cell? ⟨w.heap.size + 1, 3, none⟩ = some (.slice pa pn pc)) (first | exact HD.out _ HQ0.out | exact HD.out _ HQ1.out | exact HD.out _ HQ2.out | exact HD.out _ HQ3.out | exact HD.out _ HQ4.out | exact HD.out _ HQ5.out | exact HD.out _ HQ6.out | exact HD.out _ HQ7.out | exact HD.out _ HQ8.out | exact HD.out _ (grownN_trans HQ8.out (World.grownBy_alloc _ _ none)) | exact HD.out _ HQ9.out) (first
      | (have hzz := HQ8.out; clear hzz; go_at_call 59; refine (joined_any _ ⟨#[32]⟩ _ [t0, t1, t2, t3, t4, t5] (seesS_lit _ _ _ _ rfl (Nat.le_of_ble_eq_true rfl)) (by show 1 ≤ 100; omega) HZ.out (Nat.le_of_ble_eq_true rfl)).mono ?_; rintro e wZ ⟨rfl, hgA⟩; have HQ9 := Lib.hid (grownN_trans (grownN_trans HQ8.out (World.grownBy_alloc _ _ none)) hgA); clear hgA)
      | (have hzz := HQ7.out; clear hzz; go_at_call 73; refine (C7.out _ (HP.out.grown HQ7.out)).mono ?_; rintro e wA7 ⟨rfl, hgA⟩; have HQ8 := Lib.hid (grownN_trans HQ7.out hgA); clear hgA)
      | (have hzz := HQ6.out; clear hzz; go_at_call 60; refine (C6.out _ (pow_grown HT.out HQ6.out)).mono ?_; rintro e wA6 ⟨rfl, hgA⟩; have HQ7 := Lib.hid (grownN_trans HQ6.out hgA); clear hgA)
      | (have hzz := HQ5.out; clear hzz; go_at_call 72; refine (C5.out _ (HC.out.grown HQ5.out)).mono ?_; rintro e wA5 ⟨rfl, hgA⟩; have HQ6 := Lib.hid (grownN_trans HQ5.out hgA); clear hgA)
      | (have hzz := HQ4.out; clear hzz; go_at_call 60; refine (C4.out _ (pow_grown HT.out HQ4.out)).mono ?_; rintro e wA4 ⟨rfl, hgA⟩; have HQ5 := Lib.hid (grownN_trans HQ4.out hgA); clear hgA)
      | (have hzz := HQ3.out; clear hzz; go_at_call 71; refine (C3.out _ (HC.out.grown HQ3.out)).mono ?_; rintro e wA3 ⟨rfl, hgA⟩; have HQ4 := Lib.hid (grownN_trans HQ3.out hgA); clear hgA)
      | (have hzz := HQ2.out; clear hzz; go_at_call 60; refine (C2.out _ (pow_grown HT.out HQ2.out)).mono ?_; rintro e wA2 ⟨rfl, hgA⟩; have HQ3 := Lib.hid (grownN_trans HQ2.out hgA); clear hgA)
      | (have hzz := HQ1.out; clear hzz; go_at_call 60; refine (C1.out _ (pow_grown HT.out HQ1.out)).mono ?_; rintro e wA1 ⟨rfl, hgA⟩; have HQ2 := Lib.hid (grownN_trans HQ1.out hgA); clear hgA)
      | (have hzz := HQ0.out; clear hzz; go_at_call 17; refine (C0.out _ (HX.out.grown HQ0.out) (pow_grown HT.out HQ0.out)).mono ?_; rintro e wA0 ⟨rfl, hgA⟩; have HQ1 := Lib.hid (grownN_trans HQ0.out hgA); clear hgA))
    all_goals
      go_wp2
      go_ret
      exact ⟨ret_s HPR.out.symm, grownN_trans HG.out HQ9.out⟩

set_option maxRecDepth 100000 in
set_option maxHeartbeats 8000000 in
theorem sParty_any (w : World) (W H : Int) (x : Value) (X : List Int) (n f : Int) (cv pv : Value) (L : List Mem) (P : List Bool) (hx : Sees .i64 w x X) (hc : SeesG encM w cv L) (hp : SeesG encB w pv P) :
    Calls Tryd.prog 26 #[.agg #[.int .i64 W, .int .i64 H, x], .agg #[.int .i64 n, .int .i64 f, cv, pv]] w fun e w' => e = .returned (.string (partyT W H X n f L P)) ∧ w.grownBy w' none := by
  obtain ⟨xa, xn, xc, rfl, HXN⟩ := hx.shape
  obtain ⟨ca, cn, cc, rfl, HCN⟩ := hc.shape
  obtain ⟨pa, pn, pc, rfl, HPN⟩ := hp.shape
  have ga := World.grownBy_alloc w (.cells #[.int .i64 W, .int .i64 H, .slice xa xn xc] 27 (0, 0)) (none : Option Nat)
  have gb := World.grownBy_alloc (w.alloc (.cells #[.int .i64 W, .int .i64 H, .slice xa xn xc] 27 (0, 0))) (.cells #[.int .i64 n, .int .i64 f, .slice ca cn cc, .slice pa pn pc] 45 (0, 0)) (none : Option Nat)
  have ba := (box_new w #[.int .i64 W, .int .i64 H, .slice xa xn xc] 27).grown gb
  have bb := box_new (w.alloc (.cells #[.int .i64 W, .int .i64 H, .slice xa xn xc] 27 (0, 0))) #[.int .i64 n, .int .i64 f, .slice ca cn cc, .slice pa pn pc] 45
  rw [World.size_alloc] at bb
  have gg := grownN_trans ga gb
  have HG := Lib.hid gg
  have HX := Lib.hid (hx.grown gg)
  have HC := Lib.hid (hc.grown gg)
  have HP := Lib.hid (hp.grown gg)
  have HBA := Lib.hid ba
  have HBB := Lib.hid bb
  obtain ⟨c0, c1, c2⟩ := ba.three
  obtain ⟨d0, d1, d2, d3⟩ := four bb
  have his := Pa.sIsParty_any _ W H _ X n f _ _ L P (hx.grown gg) (hc.grown gg) (hp.grown gg)
  cases h : isParty W H X n f L P
  · rw [h] at his
    have HI := Lib.hid his
    have HR : Hid (partyT W H X n f L P = ⟨#[]⟩) := party_no h
    clear his h ga gb gg ba bb hx hc hp
    go_enter Tryd.func26, Tryd.ntmps26
    go_wp2_with fail
    refine HI.out.mono ?_
    rintro e w2 ⟨rfl, hg⟩
    have HG2 := Lib.hid (grownN_trans HG.out hg)
    clear hg
    go_wp2
    go_ret
    exact ⟨ret_s HR.out.symm, HG2.out⟩
  · rw [h] at his
    have HI := Lib.hid his
    obtain ⟨hf, hpl, hll⟩ := isParty_of h
    have nb := needOf_bound L
    have cb := capOf_bound L
    rw [HCN.out] at hll
    obtain ⟨t0, ht0⟩ : ∃ t, t = cellT W H X n := ⟨_, rfl⟩
    obtain ⟨t1, ht1⟩ : ∃ t, t = num f := ⟨_, rfl⟩
    obtain ⟨t2, ht2⟩ : ∃ t, t = num cn := ⟨_, rfl⟩
    obtain ⟨k3, hk3⟩ : ∃ k, k = needOf L := ⟨_, rfl⟩
    obtain ⟨k4, hk4⟩ : ∃ k, k = capOf L := ⟨_, rfl⟩
    obtain ⟨t3, ht3⟩ : ∃ t, t = num k3 := ⟨_, rfl⟩
    obtain ⟨t4, ht4⟩ : ∃ t, t = num k4 := ⟨_, rfl⟩
    obtain ⟨t5, ht5⟩ : ∃ t, t = Ptx.past P := ⟨_, rfl⟩
    have z0 : t0.size ≤ 40 := by rw [ht0]; exact cell_size W H X n
    have z1 : t1.size ≤ 40 := by rw [ht1]; have := num_size (n := f) (by omega) (by omega); omega
    have z2 : t2.size ≤ 40 := by rw [ht2]; have := num_size (n := (cn : Int)) (by omega) (by omega); omega
    have z3 : t3.size ≤ 40 := by rw [ht3]; have := num_size (n := k3) (by omega) (by omega); omega
    have z4 : t4.size ≤ 40 := by rw [ht4]; have := num_size (n := k4) (by omega) (by omega); omega
    have z5 : t5.size ≤ 40 := by rw [ht5]; exact past_size hpl
    have HPR : Hid (partyT W H X n f L P = joinB ⟨#[32]⟩ [t0, t1, t2, t3, t4, t5]) := by show _ = _; rw [party_yes h, parts, HCN.out, ← hk3, ← hk4, ← ht0, ← ht1, ← ht2, ← ht3, ← ht4, ← ht5]
    have hq0 := fun W' hX => Ctx.sCell_any W' W H n (.slice xa xn xc) X hX
    have hq1 := fun W' => Ctx.sNum_any W' f (by omega)
    have hq2 := fun W' => Ctx.sNum_any W' (cn : Int) (by omega)
    have hq3 := fun W' hX => CrS.sNeedOf_any W' (.slice ca cn cc) L hX
    have hq4 := fun W' => Ctx.sNum_any W' k3 (by omega)
    have hq5 := fun W' hX => CrS.sCapOf_any W' (.slice ca cn cc) L hX
    have hq6 := fun W' => Ctx.sNum_any W' k4 (by omega)
    have hq7 := fun W' hX => Ptx.sPast_any W' (.slice pa pn pc) P hX (by omega)
    rw [← ht0] at hq0
    rw [← ht1] at hq1
    rw [← ht2] at hq2
    rw [← hk3] at hq3
    rw [← ht3] at hq4
    rw [← hk4] at hq5
    rw [← ht4] at hq6
    rw [← ht5] at hq7
    have C0 := Lib.hid hq0
    have C1 := Lib.hid hq1
    have C2 := Lib.hid hq2
    have C3 := Lib.hid hq3
    have C4 := Lib.hid hq4
    have C5 := Lib.hid hq5
    have C6 := Lib.hid hq6
    have C7 := Lib.hid hq7
    have HJ := Lib.hid (join6 t0 t1 t2 t3 t4 t5)
    have s1a : ¬ (9223372036854775807 < t0.size + 1) := by omega
    obtain ⟨u1, hu1⟩ : ∃ u, t0 ++ ⟨#[32]⟩ = u := ⟨_, rfl⟩
    have y1 : u1.size ≤ 41 := by rw [← hu1, size_app, one]; omega
    have s1b : ¬ (9223372036854775807 < u1.size + t1.size) := by omega
    obtain ⟨v1, hv1⟩ : ∃ u, u1 ++ t1 = u := ⟨_, rfl⟩
    have x1 : v1.size ≤ 81 := by rw [← hv1, size_app]; omega
    have s2a : ¬ (9223372036854775807 < v1.size + 1) := by omega
    obtain ⟨u2, hu2⟩ : ∃ u, v1 ++ ⟨#[32]⟩ = u := ⟨_, rfl⟩
    have y2 : u2.size ≤ 82 := by rw [← hu2, size_app, one]; omega
    have s2b : ¬ (9223372036854775807 < u2.size + t2.size) := by omega
    obtain ⟨v2, hv2⟩ : ∃ u, u2 ++ t2 = u := ⟨_, rfl⟩
    have x2 : v2.size ≤ 122 := by rw [← hv2, size_app]; omega
    have s3a : ¬ (9223372036854775807 < v2.size + 1) := by omega
    obtain ⟨u3, hu3⟩ : ∃ u, v2 ++ ⟨#[32]⟩ = u := ⟨_, rfl⟩
    have y3 : u3.size ≤ 123 := by rw [← hu3, size_app, one]; omega
    have s3b : ¬ (9223372036854775807 < u3.size + t3.size) := by omega
    obtain ⟨v3, hv3⟩ : ∃ u, u3 ++ t3 = u := ⟨_, rfl⟩
    have x3 : v3.size ≤ 163 := by rw [← hv3, size_app]; omega
    have s4a : ¬ (9223372036854775807 < v3.size + 1) := by omega
    obtain ⟨u4, hu4⟩ : ∃ u, v3 ++ ⟨#[32]⟩ = u := ⟨_, rfl⟩
    have y4 : u4.size ≤ 164 := by rw [← hu4, size_app, one]; omega
    have s4b : ¬ (9223372036854775807 < u4.size + t4.size) := by omega
    obtain ⟨v4, hv4⟩ : ∃ u, u4 ++ t4 = u := ⟨_, rfl⟩
    have x4 : v4.size ≤ 204 := by rw [← hv4, size_app]; omega
    have s5a : ¬ (9223372036854775807 < v4.size + 1) := by omega
    obtain ⟨u5, hu5⟩ : ∃ u, v4 ++ ⟨#[32]⟩ = u := ⟨_, rfl⟩
    have y5 : u5.size ≤ 205 := by rw [← hu5, size_app, one]; omega
    have s5b : ¬ (9223372036854775807 < u5.size + t5.size) := by omega
    obtain ⟨v5, hv5⟩ : ∃ u, u5 ++ t5 = u := ⟨_, rfl⟩
    have x5 : v5.size ≤ 245 := by rw [← hv5, size_app]; omega
    have HRR : Hid (partyT W H X n f L P = v5) := by show _ = _; rw [HPR.out, HJ.out, hu1, hv1, hu2, hv2, hu3, hv3, hu4, hv4, hu5, hv5]
    clear y1 x1 y2 x2 y3 x3 y4 x4 y5 x5
    clear his h ga gb gg ba bb hx hc hp hf hpl hll nb cb ht0 ht1 ht2 ht3 ht4 ht5 hk3 hk4 hq0 hq1 hq2 hq3 hq4 hq5 hq6 hq7 z0 z1 z2 z3 z4 z5
    go_enter Tryd.func26, Tryd.ntmps26
    go_wp2_with fail
    generalize (w.alloc (.cells #[.int .i64 W, .int .i64 H, .slice xa xn xc] 27 (0, 0))).alloc (.cells #[.int .i64 n, .int .i64 f, .slice ca cn cc, .slice pa pn pc] 45 (0, 0)) = W2 at *
    refine HI.out.mono ?_
    rintro e w2 ⟨rfl, hg⟩
    have HW := Lib.hid (grown_drewN (n := 1) hg)
    have HD : Hid (∀ W', W2.grownBy W' none → (W'.cell? ⟨w.heap.size, 0, none⟩ = some (.int .i64 W) ∧ W'.cell? ⟨w.heap.size, 1, none⟩ = some (.int .i64 H) ∧ W'.cell? ⟨w.heap.size, 2, none⟩ = some (.slice xa xn xc)) ∧ W'.cell? ⟨w.heap.size + 1, 0, none⟩ = some (.int .i64 n) ∧ W'.cell? ⟨w.heap.size + 1, 1, none⟩ = some (.int .i64 f) ∧ W'.cell? ⟨w.heap.size + 1, 2, none⟩ = some (.slice ca cn cc) ∧ W'.cell? ⟨w.heap.size + 1, 3, none⟩ = some (.slice pa pn pc)) := fun W' hgg => ⟨(HBA.out.grown hgg).three, four (HBB.out.grown hgg)⟩
    have HQ0 := Lib.hid (grownN_trans hg (grown_drew (World.grownBy.refl w2 none)))
    clear hg c0 c1 c2 d0 d1 d2 d3 HW HI
    go_wp2_with fail
    go_region_held_law (fun w' => (w'.cell? ⟨w.heap.size, 0, none⟩ = some (.int .i64 W) ∧ w'.cell? ⟨w.heap.size, 1, none⟩ = some (.int .i64 H) ∧ w'.cell? ⟨w.heap.size, 2, none⟩ = some (.slice xa xn xc)) ∧ w'.cell? ⟨w.heap.size + 1, 0, none⟩ = some (.int .i64 n) ∧ w'.cell? ⟨w.heap.size + 1, 1, none⟩ = some (.int .i64 f) ∧ w'.cell? ⟨w.heap.size + 1, 2, none⟩ = some (.slice ca cn cc) ∧ w'.cell? ⟨w.heap.size + 1, 3, none⟩ = some (.slice pa pn pc)) (first | exact HD.out _ HQ0.out | exact HD.out _ HQ1.out | exact HD.out _ HQ2.out | exact HD.out _ HQ3.out | exact HD.out _ HQ4.out | exact HD.out _ HQ5.out | exact HD.out _ HQ6.out | exact HD.out _ HQ7.out | exact HD.out _ HQ8.out | exact HD.out _ (grownN_trans HQ8.out (World.grownBy_alloc _ _ none)) | exact HD.out _ HQ9.out) (first
      | (have hzz := HQ7.out; clear hzz; go_at_call 68; refine (C7.out _ (HP.out.grown HQ7.out)).mono ?_; rintro e wA7 ⟨rfl, hgA⟩; have HQ8 := Lib.hid (grownN_trans HQ7.out hgA); clear hgA)
      | (have hzz := HQ6.out; clear hzz; go_at_call 57; refine (C6.out _).mono ?_; rintro e wA6 ⟨rfl, hgA⟩; have HQ7 := Lib.hid (grownN_trans HQ6.out hgA); clear hgA)
      | (have hzz := HQ5.out; clear hzz; go_at_call 67; refine (C5.out _ (HC.out.grown HQ5.out)).mono ?_; rintro e wA5 ⟨rfl, hgA⟩; have HQ6 := Lib.hid (grownN_trans HQ5.out hgA); clear hgA)
      | (have hzz := HQ4.out; clear hzz; go_at_call 57; refine (C4.out _).mono ?_; rintro e wA4 ⟨rfl, hgA⟩; have HQ5 := Lib.hid (grownN_trans HQ4.out hgA); clear hgA)
      | (have hzz := HQ3.out; clear hzz; go_at_call 66; refine (C3.out _ (HC.out.grown HQ3.out)).mono ?_; rintro e wA3 ⟨rfl, hgA⟩; have HQ4 := Lib.hid (grownN_trans HQ3.out hgA); clear hgA)
      | (have hzz := HQ2.out; clear hzz; go_at_call 57; refine (C2.out _).mono ?_; rintro e wA2 ⟨rfl, hgA⟩; have HQ3 := Lib.hid (grownN_trans HQ2.out hgA); clear hgA)
      | (have hzz := HQ1.out; clear hzz; go_at_call 57; refine (C1.out _).mono ?_; rintro e wA1 ⟨rfl, hgA⟩; have HQ2 := Lib.hid (grownN_trans HQ1.out hgA); clear hgA)
      | (have hzz := HQ0.out; clear hzz; go_at_call 15; refine (C0.out _ (HX.out.grown HQ0.out)).mono ?_; rintro e wA0 ⟨rfl, hgA⟩; have HQ1 := Lib.hid (grownN_trans HQ0.out hgA); clear hgA))
    all_goals
      go_wp2
      go_ret
      exact ⟨ret_s HRR.out.symm, grownN_trans HG.out HQ8.out⟩
end Go.Proofs.YtoanhnklemlfmaaDoor.Ptt

/- Contracts of whether a party may wait or go on, of the model. Contracts of the model's GoStep and WaitStep. -/
import Derived.Test.YtonalkamfgpokaaGreatG50
namespace Go.Proofs.YtonalkamfgpokaaGreat.Day
open Go.RowKit Kit Rw Rg Four PartyL Pc Pd Pe Stm Crw Hom HomS Ld

set_option maxRecDepth 20000 in
set_option maxHeartbeats 4000000 in
theorem sWait_any (w : World) (W H base m rn n f : Int) (xv dv cv pv : Value) (X : List Int) (D : List (Int × Int)) (L : List Mem) (P : List Bool) (hm : (Lit.int .i64 m).wf = true) (hrn : (Lit.int .i64 rn).wf = true) (hf : (Lit.int .i64 f).wf = true)
    (hx : Sees .i64 w xv X) (hd : SeesG encP w dv D) (hc : SeesG encM w cv L) (hp : SeesG encB w pv P) (hL : L.length ≤ 1000000000) (hP : P.length ≤ 100000000) :
    Calls Tryz.prog 73 #[.agg #[.int .i64 W, .int .i64 H, xv], .int .i64 base, .agg #[.int .i64 m, .int .i64 rn], dv, .agg #[.int .i64 n, .int .i64 f, cv, pv]] w fun e w' => e = .returned (.bool (setOut W H X base m rn D n f L P n)) ∧ w.grownBy w' none := by
  obtain ⟨xa, xn, xc, rfl, HXN⟩ := hx.shape
  obtain ⟨da, dn, dc, rfl, HDN⟩ := hd.shape
  obtain ⟨ca, cn, cc, rfl, HCN⟩ := hc.shape
  obtain ⟨pa, pn, pc, rfl, HPN⟩ := hp.shape
  have HB0 := Lib.hid (H0.start (w := w) (W := W) (H := H) (m := m) (rn := rn) (n := n) (f := f) (xv := .slice xa xn xc) (cv := .slice ca cn cc) (pv := .slice pa pn pc))
  have HX := Lib.hid (hx.grown HB0.out.grown)
  have HD := Lib.hid (hd.grown HB0.out.grown)
  have HC := Lib.hid (hc.grown HB0.out.grown)
  have HP := Lib.hid (hp.grown HB0.out.grown)
  have hcan := fun w' hx hd hc hp => Lah.sCan_any w' W H base m rn n f (.slice xa xn xc) (.slice da dn dc) (.slice ca cn cc) (.slice pa pn pc) X D L P hm hrn hf hx hd hc hp
  have hs1 := fun w' hx hd hc hp => sSafe_any w' W H base m rn n f n false (.slice xa xn xc) (.slice da dn dc) (.slice ca cn cc) (.slice pa pn pc) X D L P hm hrn hf hx hd hc hp hL hP
  have hs2 := fun w' hx hd hc hp => sSafe_any w' W H base m rn n f n true (.slice xa xn xc) (.slice da dn dc) (.slice ca cn cc) (.slice pa pn pc) X D L P hm hrn hf hx hd hc hp hL hP
  have hms := fun w' hp => StormS.sMayStorm_any w' m rn hm hrn (.slice pa pn pc) P hp
  obtain ⟨q0, hq0⟩ : ∃ q, q = decide (0 ≤ left W H X base m rn D n f L P) := ⟨_, rfl⟩
  obtain ⟨q1, hq1⟩ : ∃ q, q = safe W H X base m rn D f L P n false := ⟨_, rfl⟩
  obtain ⟨y, hy⟩ : ∃ y, y = mayStorm m rn P := ⟨_, rfl⟩
  obtain ⟨q2, hq2⟩ : ∃ q, q = safe W H X base m rn D f L P n true := ⟨_, rfl⟩
  rw [← hq0] at hcan
  rw [← hq1] at hs1
  rw [← hy] at hms
  rw [← hq2] at hs2
  have HCAN := Lib.hid hcan
  have HS1 := Lib.hid hs1
  have HS2 := Lib.hid hs2
  have HMS := Lib.hid hms
  have HSO : Hid (setOut W H X base m rn D n f L P n = (q0 && (q1 && (!y || q2)))) := by show _ = _; unfold setOut both; rw [← hq0, ← hq1, ← hy, ← hq2]
  obtain ⟨⟨a0, a1, a2⟩, ⟨b0, b1⟩, c0, c1, c2, c3⟩ := HB0.out.cells
  clear hx hd hc hp hm hrn hf hL hP hcan hs1 hs2 hms hq0 hq1 hq2 hy
  have HG0 := Lib.hid (World.grownBy.refl (((w.alloc (.cells #[.int .i64 W, .int .i64 H, .slice xa xn xc] 37 (0, 0))).alloc (.cells #[.int .i64 m, .int .i64 rn] 38 (0, 0))).alloc (.cells #[.int .i64 n, .int .i64 f, .slice ca cn cc, .slice pa pn pc] 42 (0, 0))) none)
  go_enter Tryz.func73, Tryz.ntmps73
  go_wp2_with fail
  generalize ((w.alloc (.cells #[.int .i64 W, .int .i64 H, .slice xa xn xc] 37 (0, 0))).alloc (.cells #[.int .i64 m, .int .i64 rn] 38 (0, 0))).alloc (.cells #[.int .i64 n, .int .i64 f, .slice ca cn cc, .slice pa pn pc] 42 (0, 0)) = W0 at *
  generalize w.heap.size = A at *
  refine (HCAN.out _ (HX.out.grown HG0.out) (HD.out.grown HG0.out) (HC.out.grown HG0.out) (HP.out.grown HG0.out)).mono ?_
  rintro e w11 ⟨rfl, hg⟩
  have HB1 := Lib.hid (HB0.out.on hg)
  have HG1 := Lib.hid (grownN_trans HG0.out hg)
  clear hg a0 a1 a2 b0 b1 c0 c1 c2 c3
  cases q0
  · have HR : Hid (setOut W H X base m rn D n f L P n = false) := by show _ = _; rw [HSO.out]; rfl
    go_wp2
    go_ret
    exact ⟨by rw [HR.out]; rfl, HB1.out.grown⟩
  · obtain ⟨⟨a0, a1, a2⟩, ⟨b0, b1⟩, c0, c1, c2, c3⟩ := HB1.out.cells
    go_wp2_with fail
    refine (HS1.out _ (HX.out.grown HG1.out) (HD.out.grown HG1.out) (HC.out.grown HG1.out) (HP.out.grown HG1.out)).mono ?_
    rintro e w12 ⟨rfl, hg⟩
    have HB2 := Lib.hid (HB1.out.on hg)
    have HG2 := Lib.hid (grownN_trans HG1.out hg)
    clear hg a0 a1 a2 b0 b1 c0 c1 c2 c3
    cases q1
    · have HR : Hid (setOut W H X base m rn D n f L P n = false) := by show _ = _; rw [HSO.out]; rfl
      go_wp2
      go_ret
      exact ⟨by rw [HR.out]; rfl, HB2.out.grown⟩
    · obtain ⟨⟨a0, a1, a2⟩, ⟨b0, b1⟩, c0, c1, c2, c3⟩ := HB2.out.cells
      go_wp2_with fail
      refine (HMS.out _ (HP.out.grown HG2.out)).mono ?_
      rintro e w13 ⟨rfl, hg⟩
      have HB3 := Lib.hid (HB2.out.on hg)
      have HG3 := Lib.hid (grownN_trans HG2.out hg)
      clear hg a0 a1 a2 b0 b1 c0 c1 c2 c3
      cases y
      · have HR : Hid (setOut W H X base m rn D n f L P n = true) := by show _ = _; rw [HSO.out]; rfl
        go_wp2
        go_ret
        exact ⟨by rw [HR.out]; rfl, HB3.out.grown⟩
      · obtain ⟨⟨a0, a1, a2⟩, ⟨b0, b1⟩, c0, c1, c2, c3⟩ := HB3.out.cells
        go_wp2_with fail
        refine (HS2.out _ (HX.out.grown HG3.out) (HD.out.grown HG3.out) (HC.out.grown HG3.out) (HP.out.grown HG3.out)).mono ?_
        rintro e w14 ⟨rfl, hg⟩
        have HB4 := Lib.hid (HB3.out.on hg)
        have HG4 := Lib.hid (grownN_trans HG3.out hg)
        clear hg a0 a1 a2 b0 b1 c0 c1 c2 c3
        have HR : Hid (setOut W H X base m rn D n f L P n = q2) := by show _ = _; rw [HSO.out]; cases q2 <;> rfl
        go_wp2
        go_ret
        exact ⟨by rw [HR.out]; rfl, HB4.out.grown⟩

theorem any_take {l : List Int} {x : Int} {j : Nat} (hj : j < l.length) : decide (x ∈ l.take (j + 1)) = (decide (x ∈ l.take j) || (l.getD j 0 == x)) := by
  rw [List.take_succ_eq_append_getElem hj, show l.getD j 0 = l[j] by simp [hj], Bool.eq_iff_iff]
  simp only [List.mem_append, List.mem_singleton, decide_eq_true_eq, Bool.or_eq_true, beq_iff_eq]
  exact ⟨fun h => h.elim .inl (fun h => .inr h.symm), fun h => h.elim .inl (fun h => .inr h.symm)⟩
set_option maxRecDepth 20000 in
set_option maxHeartbeats 4000000 in
theorem sGo_any (w : World) (W H base m rn n f gx : Int) (xv dv cv pv : Value) (X : List Int) (D : List (Int × Int)) (L : List Mem) (P : List Bool) (hm : (Lit.int .i64 m).wf = true) (hrn : (Lit.int .i64 rn).wf = true) (hf : (Lit.int .i64 f).wf = true)
    (hx : Sees .i64 w xv X) (hd : SeesG encP w dv D) (hc : SeesG encM w cv L) (hp : SeesG encB w pv P) (hL : L.length ≤ 1000000000) (hP : P.length ≤ 100000000) :
    Calls Tryz.prog 87 #[.agg #[.int .i64 W, .int .i64 H, xv], .int .i64 base, .agg #[.int .i64 m, .int .i64 rn], dv, .agg #[.int .i64 n, .int .i64 f, cv, pv], .int .i64 gx] w fun e w' => e = .returned (.bool (mayGo W H X base m rn D n f L P gx)) ∧ w.grownBy w' none := by
  obtain ⟨xa, xn, xc, rfl, HXN⟩ := hx.shape
  obtain ⟨da, dn, dc, rfl, HDN⟩ := hd.shape
  obtain ⟨ca, cn, cc, rfl, HCN⟩ := hc.shape
  obtain ⟨pa, pn, pc, rfl, HPN⟩ := hp.shape
  have HB0 := Lib.hid (H0.start (w := w) (W := W) (H := H) (m := m) (rn := rn) (n := n) (f := f) (xv := .slice xa xn xc) (cv := .slice ca cn cc) (pv := .slice pa pn pc))
  have HX := Lib.hid (hx.grown HB0.out.grown)
  have HD := Lib.hid (hd.grown HB0.out.grown)
  have HC := Lib.hid (hc.grown HB0.out.grown)
  have HP := Lib.hid (hp.grown HB0.out.grown)
  have hcan := fun w' hx hd hc hp => Lah.sCan_any w' W H base m rn n f (.slice xa xn xc) (.slice da dn dc) (.slice ca cn cc) (.slice pa pn pc) X D L P hm hrn hf hx hd hc hp
  have hs1 := fun w' hx hd hc hp => sSafe_any w' W H base m rn n f gx false (.slice xa xn xc) (.slice da dn dc) (.slice ca cn cc) (.slice pa pn pc) X D L P hm hrn hf hx hd hc hp hL hP
  have hs2 := fun w' hx hd hc hp => sSafe_any w' W H base m rn n f n true (.slice xa xn xc) (.slice da dn dc) (.slice ca cn cc) (.slice pa pn pc) X D L P hm hrn hf hx hd hc hp hL hP
  have hms := fun w' hp => StormS.sMayStorm_any w' m rn hm hrn (.slice pa pn pc) P hp
  obtain ⟨q0, hq0⟩ : ∃ q, q = decide (0 ≤ left W H X base m rn D n f L P) := ⟨_, rfl⟩
  obtain ⟨q1, hq1⟩ : ∃ q, q = safe W H X base m rn D f L P gx false := ⟨_, rfl⟩
  obtain ⟨y, hy⟩ : ∃ y, y = mayStorm m rn P := ⟨_, rfl⟩
  obtain ⟨q2, hq2⟩ : ∃ q, q = safe W H X base m rn D f L P n true := ⟨_, rfl⟩
  rw [← hq0] at hcan
  rw [← hq1] at hs1
  rw [← hy] at hms
  rw [← hq2] at hs2
  have HCAN := Lib.hid hcan
  have HS1 := Lib.hid hs1
  have HS2 := Lib.hid hs2
  have HMS := Lib.hid hms
  have HSO : Hid (setOut W H X base m rn D n f L P gx = (q0 && (q1 && (!y || q2)))) := by show _ = _; unfold setOut both; rw [← hq0, ← hq1, ← hy, ← hq2]
  obtain ⟨⟨a0, a1, a2⟩, ⟨b0, b1⟩, c0, c1, c2, c3⟩ := HB0.out.cells
  clear hx hd hc hp hm hrn hf hL hP hcan hs1 hs2 hms hq0 hq1 hq2 hy
  go_enter Tryz.func87, Tryz.ntmps87
  go_wp2_with fail
  generalize ((w.alloc (.cells #[.int .i64 W, .int .i64 H, .slice xa xn xc] 37 (0, 0))).alloc (.cells #[.int .i64 m, .int .i64 rn] 38 (0, 0))).alloc (.cells #[.int .i64 n, .int .i64 f, .slice ca cn cc, .slice pa pn pc] 42 (0, 0)) = W0 at *
  generalize w.heap.size = A at *
  refine (LandS.sNear_any W0 W H n _ X HX.out).mono ?_
  rintro e w2 ⟨u, rfl, ho, hg⟩
  obtain ⟨ua, un, uc, hu', HUN⟩ := ho.sees.shape
  subst hu'
  have HO := Lib.hid ho.sees
  have HG0 := Lib.hid hg
  have HBZ := Lib.hid (HB0.out.on hg)
  have hNL := ho.sees.len
  obtain ⟨N, hN⟩ : ∃ N, N = nearOf W H X n := ⟨_, rfl⟩
  rw [← hN] at HO HUN hNL
  have HNN := Lib.hid hN
  have hun : un ≤ 9223372036854775807 := by rw [← HUN.out]; exact hNL
  clear hg a0 a1 a2 b0 b1 c0 c1 c2 c3 HB0 ho hN hNL
  go_wp2
  go_loop [13, 15] (fun z i => ∃ j : Nat, j ≤ un ∧ i = .int .i64 j ∧ z = .bool (decide (gx ∈ N.take j))) (fun _ i => un - (intOf i).toNat)
  case atStart => exact ⟨0, Nat.zero_le _, rfl, by simp⟩
  case round =>
    obtain ⟨j, hj, rfl, rfl⟩ := hrel
    obtain ⟨z, hz⟩ : ∃ z, z = decide (gx ∈ N.take j) := ⟨_, rfl⟩
    rw [← hz] at ⊢
    have HZ := Lib.hid hz
    clear hz
    by_cases hlt : j < un
    · have hjN : j < N.length := by rw [HUN.out]; exact hlt
      obtain ⟨x, hx⟩ : ∃ x, x = N.getD j 0 := ⟨_, rfl⟩
      obtain ⟨b, o, rfl, hcj⟩ := HO.out.at_row (j := j) hjN
      rw [← hx] at hcj
      have HNX : Hid (decide (gx ∈ N.take (j + 1)) = (z || (x == gx))) := by show _ = _; rw [any_take hjN, HZ.out, hx]
      clear hx hjN
      cases z
      · go_wp2
        go_round
        case rel => exact ⟨j + 1, by omega, by go_num, by rw [HNX.out]; rfl⟩
        case measure => simp [intOf]; omega
      · go_wp2
        go_round
        case rel => exact ⟨j + 1, by omega, by go_num, by rw [HNX.out]; rfl⟩
        case measure => simp [intOf]; omega
    · have hju : un = j := by omega
      subst hju
      have HM : Hid (mayGo W H X base m rn D n f L P gx = (z && setOut W H X base m rn D n f L P gx)) := by
        show _ = _
        unfold mayGo
        rw [HZ.out, ← HNN.out, ← HUN.out, List.take_length]
      have HB0 := HBZ
      obtain ⟨⟨a0, a1, a2⟩, ⟨b0, b1⟩, c0, c1, c2, c3⟩ := HB0.out.cells
      cases z
      · have HR : Hid (mayGo W H X base m rn D n f L P gx = false) := by show _ = _; rw [HM.out]; rfl
        go_wp2
        go_ret
        exact ⟨by rw [HR.out]; rfl, HB0.out.grown⟩
      · go_wp2_with fail
        refine (HCAN.out _ (HX.out.grown HG0.out) (HD.out.grown HG0.out) (HC.out.grown HG0.out) (HP.out.grown HG0.out)).mono ?_
        rintro e w11 ⟨rfl, hg⟩
        have HB1 := Lib.hid (HB0.out.on hg)
        have HG1 := Lib.hid (grownN_trans HG0.out hg)
        clear hg a0 a1 a2 b0 b1 c0 c1 c2 c3
        cases q0
        · have HR : Hid (mayGo W H X base m rn D n f L P gx = false) := by show _ = _; rw [HM.out, HSO.out]; rfl
          go_wp2
          go_ret
          exact ⟨by rw [HR.out]; rfl, HB1.out.grown⟩
        · obtain ⟨⟨a0, a1, a2⟩, ⟨b0, b1⟩, c0, c1, c2, c3⟩ := HB1.out.cells
          go_wp2_with fail
          refine (HS1.out _ (HX.out.grown HG1.out) (HD.out.grown HG1.out) (HC.out.grown HG1.out) (HP.out.grown HG1.out)).mono ?_
          rintro e w12 ⟨rfl, hg⟩
          have HB2 := Lib.hid (HB1.out.on hg)
          have HG2 := Lib.hid (grownN_trans HG1.out hg)
          clear hg a0 a1 a2 b0 b1 c0 c1 c2 c3
          cases q1
          · have HR : Hid (mayGo W H X base m rn D n f L P gx = false) := by show _ = _; rw [HM.out, HSO.out]; rfl
            go_wp2
            go_ret
            exact ⟨by rw [HR.out]; rfl, HB2.out.grown⟩
          · obtain ⟨⟨a0, a1, a2⟩, ⟨b0, b1⟩, c0, c1, c2, c3⟩ := HB2.out.cells
            go_wp2_with fail
            refine (HMS.out _ (HP.out.grown HG2.out)).mono ?_
            rintro e w13 ⟨rfl, hg⟩
            have HB3 := Lib.hid (HB2.out.on hg)
            have HG3 := Lib.hid (grownN_trans HG2.out hg)
            clear hg a0 a1 a2 b0 b1 c0 c1 c2 c3
            cases y
            · have HR : Hid (mayGo W H X base m rn D n f L P gx = true) := by show _ = _; rw [HM.out, HSO.out]; rfl
              go_wp2
              go_ret
              exact ⟨by rw [HR.out]; rfl, HB3.out.grown⟩
            · obtain ⟨⟨a0, a1, a2⟩, ⟨b0, b1⟩, c0, c1, c2, c3⟩ := HB3.out.cells
              go_wp2_with fail
              refine (HS2.out _ (HX.out.grown HG3.out) (HD.out.grown HG3.out) (HC.out.grown HG3.out) (HP.out.grown HG3.out)).mono ?_
              rintro e w14 ⟨rfl, hg⟩
              have HB4 := Lib.hid (HB3.out.on hg)
              have HG4 := Lib.hid (grownN_trans HG3.out hg)
              clear hg a0 a1 a2 b0 b1 c0 c1 c2 c3
              have HR : Hid (mayGo W H X base m rn D n f L P gx = q2) := by show _ = _; rw [HM.out, HSO.out]; cases q2 <;> rfl
              go_wp2
              go_ret
              exact ⟨by rw [HR.out]; rfl, HB4.out.grown⟩
end Go.Proofs.YtonalkamfgpokaaGreat.Day

namespace Go.Proofs.YtonalkamfgpokaaGreat.Day
open Go.RowKit Kit Rw Rg Four PartyL Pc Pd Pe Stm Crw Hom HomS


set_option maxRecDepth 20000 in
set_option maxHeartbeats 4000000 in
theorem sGoStep_any (w : World) (W H base m rn n f gx : Int) (st : Bool) (xv dv cv pv : Value) (X : List Int) (D : List (Int × Int)) (L : List Mem) (P : List Bool) (hm : (Lit.int .i64 m).wf = true) (hrn : (Lit.int .i64 rn).wf = true) (hf : (Lit.int .i64 f).wf = true)
    (hx : Sees .i64 w xv X) (hd : SeesG encP w dv D) (hc : SeesG encM w cv L) (hp : SeesG encB w pv P) (hL : L.length ≤ 1000000000) (hP : P.length ≤ 100000000) :
    Calls Tryz.prog 40 #[.agg #[.int .i64 W, .int .i64 H, xv], .int .i64 base, .agg #[.int .i64 m, .int .i64 rn], dv, .agg #[.int .i64 n, .int .i64 f, cv, pv], .int .i64 gx, .bool st] w fun e w' => ∃ u t, e = .returned (.tuple #[.agg #[.int .i64 (stN (mayGo W H X base m rn D n f L P gx && (!st || mayStorm m rn P)) st n gx), .int .i64 (stF (mayGo W H X base m rn D n f L P gx && (!st || mayStorm m rn P)) L f), u, t], .bool (mayGo W H X base m rn D n f L P gx && (!st || mayStorm m rn P))]) ∧ SitsG encM w' w.heap.size u L ∧ SitsG encB w' w.heap.size t (stP (mayGo W H X base m rn D n f L P gx && (!st || mayStorm m rn P)) st P) ∧ Apart t u ∧ w.grownBy w' none := by
  obtain ⟨xa, xn, xc, rfl, HXN⟩ := hx.shape
  obtain ⟨da, dn, dc, rfl, HDN⟩ := hd.shape
  obtain ⟨ca, cn, cc, rfl, HCN⟩ := hc.shape
  obtain ⟨pa, pn, pc, rfl, HPN⟩ := hp.shape
  have hb0 := H0.start (w := w) (W := W) (H := H) (m := m) (rn := rn) (n := n) (f := f) (xv := .slice xa xn xc) (cv := .slice ca cn cc) (pv := .slice pa pn pc)
  have g3 := World.grownBy_alloc (((w.alloc (.cells #[.int .i64 W, .int .i64 H, .slice xa xn xc] 37 (0, 0))).alloc (.cells #[.int .i64 m, .int .i64 rn] 38 (0, 0))).alloc (.cells #[.int .i64 n, .int .i64 f, .slice ca cn cc, .slice pa pn pc] 42 (0, 0))) (.cells #[.int .i64 0, .int .i64 0, .slice none 0 0, .slice none 0 0] 42 (0, 0)) (none : Option Nat)
  have b3 := box_new (((w.alloc (.cells #[.int .i64 W, .int .i64 H, .slice xa xn xc] 37 (0, 0))).alloc (.cells #[.int .i64 m, .int .i64 rn] 38 (0, 0))).alloc (.cells #[.int .i64 n, .int .i64 f, .slice ca cn cc, .slice pa pn pc] 42 (0, 0))) #[.int .i64 0, .int .i64 0, .slice none 0 0, .slice none 0 0] 42
  simp only [World.size_alloc] at b3
  have HB0 := Lib.hid (hb0.on g3)
  have B3 := Lib.hid b3
  have HX := Lib.hid (hx.grown HB0.out.grown)
  have HD := Lib.hid (hd.grown HB0.out.grown)
  have HC := Lib.hid (hc.grown HB0.out.grown)
  have HP := Lib.hid (hp.grown HB0.out.grown)
  have HM := Lib.hid (And.intro hm (And.intro hrn hf))
  have HLP := Lib.hid (And.intro hL hP)
  have hmay := fun w' hx hd hc hp => sGo_any w' W H base m rn n f gx (.slice xa xn xc) (.slice da dn dc) (.slice ca cn cc) (.slice pa pn pc) X D L P hm hrn hf hx hd hc hp hL hP
  have hms := fun w' hp => StormS.sMayStorm_any w' m rn hm hrn (.slice pa pn pc) P hp
  obtain ⟨q, hq⟩ : ∃ q, q = mayGo W H X base m rn D n f L P gx := ⟨_, rfl⟩
  have heat : q = true → eatB L f = true := fun h => by rw [hq] at h; unfold mayGo at h; rw [Bool.and_eq_true] at h; exact both_eat h.2
  obtain ⟨y, hy⟩ : ∃ y, y = mayStorm m rn P := ⟨_, rfl⟩
  rw [← hq] at hmay
  rw [← hy] at hms
  rw [← hq, ← hy]
  have HMAY := Lib.hid hmay
  have HMS := Lib.hid hms
  have HEAT := Lib.hid heat
  obtain ⟨⟨a0, a1, a2⟩, ⟨b0, b1⟩, c0, c1, c2, c3⟩ := HB0.out.cells
  clear hx hd hc hp hm hrn hf hL hP hb0 g3 b3 hmay hms hq hy heat
  go_enter Tryz.func40, Tryz.ntmps40
  go_wp2_with fail
  generalize (((w.alloc (.cells #[.int .i64 W, .int .i64 H, .slice xa xn xc] 37 (0, 0))).alloc (.cells #[.int .i64 m, .int .i64 rn] 38 (0, 0))).alloc (.cells #[.int .i64 n, .int .i64 f, .slice ca cn cc, .slice pa pn pc] 42 (0, 0))).alloc (.cells #[.int .i64 0, .int .i64 0, .slice none 0 0, .slice none 0 0] 42 (0, 0)) = W0 at *
  refine (HMAY.out _ HX.out HD.out HC.out HP.out).mono ?_
  rintro e w4 ⟨rfl, hg0⟩
  have HGX := Lib.hid hg0
  clear hg0 a0 a1 a2 b0 b1 c0 c1 c2 c3
  cases q
  · obtain ⟨⟨a0, a1, a2⟩, ⟨b0, b1⟩, c0, c1, c2, c3⟩ := (HB0.out.on HGX.out).cells
    go_wp2_with fail
    clear a0 a1 a2 b0 b1 c0 c1 c2 c3
    refine (Pc.copy_any w4 n f _ _ L P (HC.out.grown HGX.out) (HP.out.grown HGX.out) HLP.out.1 (by have := HLP.out.2; omega)).mono ?_
    rintro e wf ⟨u, t, rfl, hu, ht, hap, hg⟩
    obtain ⟨ua, un, uc, hu', HUN⟩ := hu.sees.shape
    subst hu'
    obtain ⟨ta, tn, tc, ht', HTN⟩ := ht.sees.shape
    subst ht'
    have HU := Lib.hid (hu.sits)
    have HT := Lib.hid (ht.sits)
    have HAP : Hid (Apart (.slice ta tn tc) (.slice ua un uc)) := ApartU.symm hap
    have hGf := grownN_trans HGX.out hg
    have hR := B3.out.grown hGf
    have HGF := Lib.hid (grownN_trans HB0.out.grown hGf)
    have HRL := Lib.hid (Nat.le_trans B3.out.lt HGX.out.size)
    have HZX := Lib.hid (grownN_trans HB0.out.grown HGX.out).size
    have HRB := Lib.hid hR
    obtain ⟨⟨p0, q0⟩, ⟨p1, q1⟩, ⟨p2, q2⟩, ⟨p3, q3⟩⟩ := put4_on hR (.int .i64 (n)) (.int .i64 (f)) (.slice ua un uc) (.slice ta tn tc)
    clear hu ht hap hg hGf hR
    go_wp2
    try simp only [Exit.inBlock, Exit.then]
    have hP4 := put4_grown wf (w.heap.size + 1 + 1 + 1) (.int .i64 (n)) (.int .i64 (f)) (.slice ua un uc) (.slice ta tn tc)
    have hrl := HRL.out
    refine ret_box1 rfl rfl (put4_box (x' := .int .i64 (n)) (y' := .int .i64 (f)) (z' := (.slice ua un uc)) (u' := (.slice ta tn tc)) HRB.out) Tryz.underlying42 rfl (by kernel_rfl) rfl ?_
    exact ⟨(.slice ua un uc), (.slice ta tn tc), rfl, (HU.out.kept hP4 (.inr (HU.out.off (by omega)))).lower HZX.out, (HT.out.kept hP4 (.inr (HT.out.off (by omega)))).lower HZX.out, HAP.out, grown_new HGF.out hP4 (fun c h => by injection h with h; omega)⟩
  · cases st
    · obtain ⟨⟨a0, a1, a2⟩, ⟨b0, b1⟩, c0, c1, c2, c3⟩ := (HB0.out.on HGX.out).cells
      go_wp2_with fail
      clear a0 a1 a2 b0 b1 c0 c1 c2 c3
      refine (sDay_any w4 n f gx false _ _ L P HM.out.2.2 (HC.out.grown HGX.out) (HP.out.grown HGX.out) HLP.out.1 HLP.out.2).mono ?_
      rintro e wf ⟨u, t, rfl, hu, ht, hap, hg⟩
      rw [HEAT.out (by trivial)]
      obtain ⟨ua, un, uc, hu', HUN⟩ := hu.sees.shape
      subst hu'
      obtain ⟨ta, tn, tc, ht', HTN⟩ := ht.sees.shape
      subst ht'
      have HU := Lib.hid (hu)
      have HT := Lib.hid (ht)
      have HAP : Hid (Apart (.slice ta tn tc) (.slice ua un uc)) := hap
      have hGf := grownN_trans HGX.out hg
      have hR := B3.out.grown hGf
      have HGF := Lib.hid (grownN_trans HB0.out.grown hGf)
      have HRL := Lib.hid (Nat.le_trans B3.out.lt HGX.out.size)
      have HZX := Lib.hid (grownN_trans HB0.out.grown HGX.out).size
      have HRB := Lib.hid hR
      obtain ⟨⟨p0, q0⟩, ⟨p1, q1⟩, ⟨p2, q2⟩, ⟨p3, q3⟩⟩ := put4_on hR (.int .i64 (gx)) (.int .i64 (eatF L f)) (.slice ua un uc) (.slice ta tn tc)
      clear hu ht hap hg hGf hR
      go_wp2
      try simp only [Exit.inBlock, Exit.then]
      have hP4 := put4_grown wf (w.heap.size + 1 + 1 + 1) (.int .i64 (gx)) (.int .i64 (eatF L f)) (.slice ua un uc) (.slice ta tn tc)
      have hrl := HRL.out
      refine ret_box1 rfl rfl (put4_box (x' := .int .i64 (gx)) (y' := .int .i64 (eatF L f)) (z' := (.slice ua un uc)) (u' := (.slice ta tn tc)) HRB.out) Tryz.underlying42 rfl (by kernel_rfl) rfl ?_
      exact ⟨(.slice ua un uc), (.slice ta tn tc), rfl, (HU.out.kept hP4 (.inr (HU.out.off (by omega)))).lower HZX.out, (HT.out.kept hP4 (.inr (HT.out.off (by omega)))).lower HZX.out, HAP.out, grown_new HGF.out hP4 (fun c h => by injection h with h; omega)⟩
    · obtain ⟨⟨a0, a1, a2⟩, ⟨b0, b1⟩, c0, c1, c2, c3⟩ := (HB0.out.on HGX.out).cells
      go_wp2_with fail
      refine (HMS.out _ (HP.out.grown HGX.out)).mono ?_
      rintro e w5 ⟨rfl, hg0⟩
      have HGY := Lib.hid (grownN_trans HGX.out hg0)
      clear hg0 HGX a0 a1 a2 b0 b1 c0 c1 c2 c3
      have HGX := HGY
      clear HGY
      cases y
      · obtain ⟨⟨a0, a1, a2⟩, ⟨b0, b1⟩, c0, c1, c2, c3⟩ := (HB0.out.on HGX.out).cells
        go_wp2_with fail
        clear a0 a1 a2 b0 b1 c0 c1 c2 c3
        refine (Pc.copy_any w5 n f _ _ L P (HC.out.grown HGX.out) (HP.out.grown HGX.out) HLP.out.1 (by have := HLP.out.2; omega)).mono ?_
        rintro e wf ⟨u, t, rfl, hu, ht, hap, hg⟩
        obtain ⟨ua, un, uc, hu', HUN⟩ := hu.sees.shape
        subst hu'
        obtain ⟨ta, tn, tc, ht', HTN⟩ := ht.sees.shape
        subst ht'
        have HU := Lib.hid (hu.sits)
        have HT := Lib.hid (ht.sits)
        have HAP : Hid (Apart (.slice ta tn tc) (.slice ua un uc)) := ApartU.symm hap
        have hGf := grownN_trans HGX.out hg
        have hR := B3.out.grown hGf
        have HGF := Lib.hid (grownN_trans HB0.out.grown hGf)
        have HRL := Lib.hid (Nat.le_trans B3.out.lt HGX.out.size)
        have HZX := Lib.hid (grownN_trans HB0.out.grown HGX.out).size
        have HRB := Lib.hid hR
        obtain ⟨⟨p0, q0⟩, ⟨p1, q1⟩, ⟨p2, q2⟩, ⟨p3, q3⟩⟩ := put4_on hR (.int .i64 (n)) (.int .i64 (f)) (.slice ua un uc) (.slice ta tn tc)
        clear hu ht hap hg hGf hR
        go_wp2
        try simp only [Exit.inBlock, Exit.then]
        have hP4 := put4_grown wf (w.heap.size + 1 + 1 + 1) (.int .i64 (n)) (.int .i64 (f)) (.slice ua un uc) (.slice ta tn tc)
        have hrl := HRL.out
        refine ret_box1 rfl rfl (put4_box (x' := .int .i64 (n)) (y' := .int .i64 (f)) (z' := (.slice ua un uc)) (u' := (.slice ta tn tc)) HRB.out) Tryz.underlying42 rfl (by kernel_rfl) rfl ?_
        exact ⟨(.slice ua un uc), (.slice ta tn tc), rfl, (HU.out.kept hP4 (.inr (HU.out.off (by omega)))).lower HZX.out, (HT.out.kept hP4 (.inr (HT.out.off (by omega)))).lower HZX.out, HAP.out, grown_new HGF.out hP4 (fun c h => by injection h with h; omega)⟩
      · obtain ⟨⟨a0, a1, a2⟩, ⟨b0, b1⟩, c0, c1, c2, c3⟩ := (HB0.out.on HGX.out).cells
        go_wp2_with fail
        clear a0 a1 a2 b0 b1 c0 c1 c2 c3
        refine (sDay_any w5 n f n true _ _ L P HM.out.2.2 (HC.out.grown HGX.out) (HP.out.grown HGX.out) HLP.out.1 HLP.out.2).mono ?_
        rintro e wf ⟨u, t, rfl, hu, ht, hap, hg⟩
        rw [HEAT.out (by trivial)]
        obtain ⟨ua, un, uc, hu', HUN⟩ := hu.sees.shape
        subst hu'
        obtain ⟨ta, tn, tc, ht', HTN⟩ := ht.sees.shape
        subst ht'
        have HU := Lib.hid (hu)
        have HT := Lib.hid (ht)
        have HAP : Hid (Apart (.slice ta tn tc) (.slice ua un uc)) := hap
        have hGf := grownN_trans HGX.out hg
        have hR := B3.out.grown hGf
        have HGF := Lib.hid (grownN_trans HB0.out.grown hGf)
        have HRL := Lib.hid (Nat.le_trans B3.out.lt HGX.out.size)
        have HZX := Lib.hid (grownN_trans HB0.out.grown HGX.out).size
        have HRB := Lib.hid hR
        obtain ⟨⟨p0, q0⟩, ⟨p1, q1⟩, ⟨p2, q2⟩, ⟨p3, q3⟩⟩ := put4_on hR (.int .i64 (n)) (.int .i64 (eatF L f)) (.slice ua un uc) (.slice ta tn tc)
        clear hu ht hap hg hGf hR
        go_wp2
        try simp only [Exit.inBlock, Exit.then]
        have hP4 := put4_grown wf (w.heap.size + 1 + 1 + 1) (.int .i64 (n)) (.int .i64 (eatF L f)) (.slice ua un uc) (.slice ta tn tc)
        have hrl := HRL.out
        refine ret_box1 rfl rfl (put4_box (x' := .int .i64 (n)) (y' := .int .i64 (eatF L f)) (z' := (.slice ua un uc)) (u' := (.slice ta tn tc)) HRB.out) Tryz.underlying42 rfl (by kernel_rfl) rfl ?_
        exact ⟨(.slice ua un uc), (.slice ta tn tc), rfl, (HU.out.kept hP4 (.inr (HU.out.off (by omega)))).lower HZX.out, (HT.out.kept hP4 (.inr (HT.out.off (by omega)))).lower HZX.out, HAP.out, grown_new HGF.out hP4 (fun c h => by injection h with h; omega)⟩

end Go.Proofs.YtonalkamfgpokaaGreat.Day

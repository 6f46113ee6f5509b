/- Contracts of the model's functions of chapter 7. -/
import Derived.Test.YtoanhnklemlfmaaDoorCrewF
import Derived.Test.YtoanhnklemlfmaaDoorRowM
import Derived.IntWalk
import Derived.Deep.QuietTactic
import Derived.BigQuiet
namespace Go.Proofs.YtoanhnklemlfmaaDoor.CrS
open Go.RowKit Kit Rw Rg Crw Md

theorem quietly {P : Program} {f : FuncId} {args : Array Value} {w : World} {v : Value} (h : Calls P f args w fun e w' => e = .returned v ∧ w = w') : Calls P f args w fun e w' => e = .returned v ∧ w' = w := h.mono fun _ _ h => ⟨h.1, h.2.symm⟩
def inb (n l h : Int) : Bool := decide (l ≤ n ∧ n ≤ h)
theorem l1In_b (n l h : Int) (w : World) : Calls Tryd.prog 103 #[.int .i64 n, .int .i64 l, .int .i64 h] w fun e w' => e = .returned (.bool (inb n l h)) ∧ w' = w := quietly (l1In_any n l h w)
/-- The cells of one member, in a world that has grown. -/
theorem atM_grown {w wr : World} {b o n cap : Nat} {L : List Mem} (h : SeesG encM w (.slice (some ⟨b, o, none⟩) n cap) L) (hg : w.grownBy wr none) {j : Nat} (hj : j < L.length) {x : Mem} (hx : L.getD j dM = x) :
    wr.cell? ⟨b, o + j * 4, none⟩ = some (.int .i64 x.id) ∧ wr.cell? ⟨b, o + j * 4 + 1, none⟩ = some (.int .i64 x.str) ∧ wr.cell? ⟨b, o + j * 4 + 2, none⟩ = some (.int .i64 x.need) ∧ wr.cell? ⟨b, o + j * 4 + 3, none⟩ = some (.bool x.ill) := by
  obtain ⟨e0, e1, e2, e3⟩ := (h.grown hg).atM hj
  rw [show (⟨0, 0, 0, false⟩ : Mem) = dM from rfl, hx] at e0 e1 e2 e3
  simp only [Nat.add_assoc] at e1 e2 e3 ⊢
  exact ⟨e0, e1, e2, e3⟩

set_option maxRecDepth 20000 in
set_option maxHeartbeats 1000000 in
theorem sAreCrew_any (w : World) (v : Value) (L : List Mem) (hv : SeesG encM w v L) :
    Calls Tryd.prog 110 #[v] w fun e w' => e = .returned (.bool (areCrew L)) ∧ w.grownBy w' none := by
  have hl := hv.len
  have HV := Lib.hid hv
  obtain ⟨a, cap, rfl, _⟩ := hv
  go_enter Tryd.func110, Tryd.ntmps110
  go_wp2
  go_loopw [3] (fun i wr => ∃ j : Nat, j ≤ L.length ∧ i = .int .i64 j ∧ Hid (upTo L j) ∧ Hid (w.grownBy wr none)) (fun i _ => L.length - (intOf i).toNat)
  case atStart => exact ⟨0, Nat.zero_le _, rfl, upTo_zero L, World.grownBy.refl _ _⟩
  case round =>
    obtain ⟨j, hj, rfl, HU, HG⟩ := hrel
    by_cases hlt : j < L.length
    · obtain ⟨b, o, rfl, _, _⟩ := HV.out.at_row hlt
      obtain ⟨x, hx⟩ : ∃ x, L.getD j dM = x := ⟨_, rfl⟩
      obtain ⟨d0, d1, d2, d3⟩ := atM_grown HV.out HG.out hlt hx
      have HX := Lib.hid hx
      clear hx
      obtain ⟨xi, xs, xn, xb⟩ := x
      dsimp only at d0 d1 d2 d3
      by_cases hA : 1 ≤ xi ∧ xi ≤ 99
      · by_cases hB : 0 ≤ xs ∧ xs ≤ 100
        · by_cases hC : 1 ≤ xn ∧ xn ≤ 10
          · have HOK : Hid (okMem (L.getD j dM) = true) := by show _ = _; rw [HX.out]; unfold okMem; rw [decide_eq_true hA, decide_eq_true hB, decide_eq_true hC]; rfl
            have h0 : inb xi 1 99 = true := decide_eq_true hA
            have h1 : inb xs 0 100 = true := decide_eq_true hB
            have h2 : inb xn 1 10 = true := decide_eq_true hC
            by_cases h0 : j = 0
            · have hj0 : (j : Int) ≤ 0 := by omega
              have hjd : decide (0 < j) = false := decide_eq_false (by omega)
              have HU2 : Hid (upTo L (j + 1)) := upTo_next HU.out HOK.out (fun h => absurd h (by omega))
              clear hA hB hC h0
              go_wp2
              go_quiet (first | (go_at_call 103; refine Calls.quiet_of_same (l1In_b _ _ _ _)))
              go_wp2
              go_roundw
              case rel => exact ⟨j + 1, by omega, by go_num, HU2, grown_drewN HG.out _⟩
              case measure => simp [intOf]; omega
            · obtain ⟨y, hy⟩ : ∃ y, L.getD (j - 1) dM = y := ⟨_, rfl⟩
              have hk : j - 1 < L.length := by omega
              obtain ⟨k, hkk⟩ : ∃ k, k = j - 1 := ⟨_, rfl⟩
              have hki : (j : Int) - 1 = k := by omega
              rw [← hkk] at hy hk
              obtain ⟨f0, _, _, _⟩ := atM_grown HV.out HG.out hk hy
              have HY := Lib.hid hy
              have HKK := Lib.hid hkk
              clear hy hkk
              obtain ⟨yi, ys, yn, yb⟩ := y
              dsimp only at f0
              have hj0 : (0 : Int) < j := by omega
              have hjd : decide (0 < j) = true := decide_eq_true (by omega)
              clear hA hB hC
              by_cases hq : yi < xi
              · have HU2 : Hid (upTo L (j + 1)) := upTo_next HU.out HOK.out (fun _ => by rw [HX.out, ← HKK.out, HY.out]; exact hq)
                go_wp2
                go_quiet (first | (go_at_call 103; refine Calls.quiet_of_same (l1In_b _ _ _ _)))
                go_wp2
                go_roundw
                case rel => exact ⟨j + 1, by omega, by go_num, HU2, grown_drewN HG.out _⟩
                case measure => simp [intOf]; omega
              · have HR : Hid (areCrew L = false) := crew_bad hlt (by right; rw [HX.out, ← HKK.out, HY.out]; exact ⟨by omega, hq⟩)
                go_wp2
                go_quiet (first | (go_at_call 103; refine Calls.quiet_of_same (l1In_b _ _ _ _)))
                go_wp2
                go_ret
                exact ⟨ret_bool HR.out.symm, grown_drewN HG.out _⟩
          · skip
            have HR : Hid (areCrew L = false) := crew_bad hlt (by left; rw [HX.out]; unfold okMem; rw [decide_eq_true hA, decide_eq_true hB, decide_eq_false hC]; rfl)
            have h0 : inb xi 1 99 = true := decide_eq_true hA
            have h1 : inb xs 0 100 = true := decide_eq_true hB
            have h2 : inb xn 1 10 = false := decide_eq_false hC
            clear hA hB hC
            go_wp2
            go_quiet (first | (go_at_call 103; refine Calls.quiet_of_same (l1In_b _ _ _ _)))
            go_wp2
            go_ret
            exact ⟨ret_bool HR.out.symm, grown_drewN HG.out _⟩
        · skip
          have HR : Hid (areCrew L = false) := crew_bad hlt (by left; rw [HX.out]; unfold okMem; rw [decide_eq_true hA, decide_eq_false hB]; simp)
          have h0 : inb xi 1 99 = true := decide_eq_true hA
          have h1 : inb xs 0 100 = false := decide_eq_false hB
          clear hA hB
          go_wp2
          go_quiet (first | (go_at_call 103; refine Calls.quiet_of_same (l1In_b _ _ _ _)))
          go_wp2
          go_ret
          exact ⟨ret_bool HR.out.symm, grown_drewN HG.out _⟩
      · skip
        have HR : Hid (areCrew L = false) := crew_bad hlt (by left; rw [HX.out]; unfold okMem; rw [decide_eq_false hA]; simp)
        have h0 : inb xi 1 99 = false := decide_eq_false hA
        clear hA
        go_wp2
        go_quiet (first | (go_at_call 103; refine Calls.quiet_of_same (l1In_b _ _ _ _)))
        go_wp2
        go_ret
        exact ⟨ret_bool HR.out.symm, grown_drewN HG.out _⟩
    · have : j = L.length := by omega
      subst this
      have hs := fun w => l1In_any (L.length : Int) 1 8 w
      by_cases hq : 1 ≤ L.length ∧ L.length ≤ 8
      · have HR : Hid (areCrew L = true) := crew_yes hq HU.out
        rw [decide_eq_true (show (1 : Int) ≤ L.length ∧ (L.length : Int) ≤ 8 by omega)] at hs
        have HS := Lib.hid hs
        clear hs hq
        go_wp2_with (go_at_call 103; refine (HS.out _).mono ?_; rintro e w3 ⟨rfl, rfl⟩)
        go_ret
        exact ⟨ret_bool HR.out.symm, HG.out⟩
      · have HR : Hid (areCrew L = false) := crew_long hq
        rw [decide_eq_false (show ¬ ((1 : Int) ≤ L.length ∧ (L.length : Int) ≤ 8) by omega)] at hs
        have HS := Lib.hid hs
        clear hs hq
        go_wp2_with (go_at_call 103; refine (HS.out _).mono ?_; rintro e w3 ⟨rfl, rfl⟩)
        go_ret
        exact ⟨ret_bool HR.out.symm, HG.out⟩

set_option maxRecDepth 20000 in
set_option maxHeartbeats 800000 in
theorem sNeedOf_any (w : World) (v : Value) (L : List Mem) (hv : SeesG encM w v L) :
    Calls Tryd.prog 66 #[v] w fun e w' => e = .returned (.int .i64 (needOf L)) ∧ w.grownBy w' none := by
  have hl := hv.len
  have HV := Lib.hid hv
  have HA := Lib.hid (fun w hv => sAreCrew_any w v L hv)
  obtain ⟨a, cap, rfl, _⟩ := hv
  cases hc : areCrew L
  · have HZ := Lib.hid (needOf_zero hc)
    rw [hc] at HA
    clear hc
    go_enter Tryd.func66, Tryd.ntmps66
    go_wp2
    go_loopw [3, 4] (fun s i wr => s = .int .i64 0 ∧ i = .int .i64 0 ∧ Hid (w.grownBy wr none)) (fun _ _ _ => 0)
    case atStart => exact ⟨rfl, rfl, World.grownBy.refl _ _⟩
    case round =>
      obtain ⟨rfl, rfl, HG⟩ := hrel
      by_cases h0 : 0 < L.length
      · go_wp2_with (go_at_call 110; refine (HA.out _ (HV.out.grown HG.out)).mono ?_; rintro e w3 ⟨rfl, hg⟩; have HG3 := Lib.hid (grownN_trans HG.out hg); clear hg)
        go_ret
        exact ⟨ret_i64 HZ.out.symm, HG3.out⟩
      · go_wp2
        go_ret
        exact ⟨ret_i64 HZ.out.symm, HG.out⟩
  · have HF : Hid (needOf L = sumTo eats L L.length) := by show _ = _; unfold needOf; rw [if_pos hc]
    have HC := Lib.hid hc
    rw [hc] at HA
    clear hc
    go_enter Tryd.func66, Tryd.ntmps66
    go_wp2
    go_loopw [3, 4] (fun s i wr => ∃ j : Nat, j ≤ L.length ∧ i = .int .i64 j ∧ s = .int .i64 (sumTo eats L j) ∧ Hid (w.grownBy wr none)) (fun _ i _ => L.length - (intOf i).toNat)
    case atStart => exact ⟨0, Nat.zero_le _, rfl, by rw [sumTo_zero], World.grownBy.refl _ _⟩
    case round =>
      obtain ⟨j, hj, rfl, rfl, HG⟩ := hrel
      have hsm := sum_small HC.out (fun j hj => eats_at HC.out hj) hj
      obtain ⟨y, hy⟩ : ∃ y, y = sumTo eats L j := ⟨_, rfl⟩
      rw [← hy] at hsm ⊢
      have HY := Lib.hid hy
      clear hy
      by_cases hlt : j < L.length
      · obtain ⟨b, o, rfl, _, _⟩ := HV.out.at_row hlt
        obtain ⟨x, hx⟩ : ∃ x, L.getD j dM = x := ⟨_, rfl⟩
        have ha := eats_at HC.out hlt
        have hn := sumTo_next (f := eats) hlt
        have hcr := crew_at HC.out hlt
        rw [hx] at ha hn hcr
        have HN := Lib.hid hn
        have HX := Lib.hid hx
        clear hx hn
        obtain ⟨xi, xs, xn, xb⟩ := x
        dsimp only at hcr
        obtain ⟨hc1, hc2, hc3⟩ := hcr
        go_wp2_with (go_at_call 110; refine (HA.out _ (HV.out.grown HG.out)).mono ?_; rintro e w3 ⟨rfl, hg⟩; have HG3 := Lib.hid (grownN_trans HG.out hg); clear hg; obtain ⟨d0, d1, d2, d3⟩ := atM_grown HV.out HG3.out hlt HX.out; dsimp only at d0 d1 d2 d3)
        go_roundw
        case rel => exact ⟨j + 1, by omega, by go_num, by rw [HN.out, ← HY.out]; rfl, HG3⟩
        case measure => simp [intOf]; omega
      · have : j = L.length := by omega
        subst this
        go_wp2
        go_ret
        exact ⟨ret_i64 (by rw [HF.out, HY.out]), HG.out⟩

set_option maxRecDepth 20000 in
set_option maxHeartbeats 800000 in
theorem sCapOf_any (w : World) (v : Value) (L : List Mem) (hv : SeesG encM w v L) :
    Calls Tryd.prog 67 #[v] w fun e w' => e = .returned (.int .i64 (capOf L)) ∧ w.grownBy w' none := by
  have hl := hv.len
  have HV := Lib.hid hv
  have HA := Lib.hid (fun w hv => sAreCrew_any w v L hv)
  obtain ⟨a, cap, rfl, _⟩ := hv
  cases hc : areCrew L
  · have HZ := Lib.hid (capOf_zero hc)
    rw [hc] at HA
    clear hc
    go_enter Tryd.func67, Tryd.ntmps67
    go_wp2
    go_loopw [3, 4] (fun s i wr => s = .int .i64 0 ∧ i = .int .i64 0 ∧ Hid (w.grownBy wr none)) (fun _ _ _ => 0)
    case atStart => exact ⟨rfl, rfl, World.grownBy.refl _ _⟩
    case round =>
      obtain ⟨rfl, rfl, HG⟩ := hrel
      by_cases h0 : 0 < L.length
      · go_wp2_with (go_at_call 110; refine (HA.out _ (HV.out.grown HG.out)).mono ?_; rintro e w3 ⟨rfl, hg⟩; have HG3 := Lib.hid (grownN_trans HG.out hg); clear hg)
        go_ret
        exact ⟨ret_i64 HZ.out.symm, HG3.out⟩
      · go_wp2
        go_ret
        exact ⟨ret_i64 HZ.out.symm, HG.out⟩
  · have HF : Hid (capOf L = sumTo carries L L.length) := by show _ = _; unfold capOf; rw [if_pos hc]
    have HC := Lib.hid hc
    rw [hc] at HA
    clear hc
    go_enter Tryd.func67, Tryd.ntmps67
    go_wp2
    go_loopw [3, 4] (fun s i wr => ∃ j : Nat, j ≤ L.length ∧ i = .int .i64 j ∧ s = .int .i64 (sumTo carries L j) ∧ Hid (w.grownBy wr none)) (fun _ i _ => L.length - (intOf i).toNat)
    case atStart => exact ⟨0, Nat.zero_le _, rfl, by rw [sumTo_zero], World.grownBy.refl _ _⟩
    case round =>
      obtain ⟨j, hj, rfl, rfl, HG⟩ := hrel
      have hsm := sum_small HC.out (fun j hj => carries_at HC.out hj) hj
      obtain ⟨y, hy⟩ : ∃ y, y = sumTo carries L j := ⟨_, rfl⟩
      rw [← hy] at hsm ⊢
      have HY := Lib.hid hy
      clear hy
      by_cases hlt : j < L.length
      · obtain ⟨b, o, rfl, _, _⟩ := HV.out.at_row hlt
        obtain ⟨x, hx⟩ : ∃ x, L.getD j dM = x := ⟨_, rfl⟩
        have ha := carries_at HC.out hlt
        have hn := sumTo_next (f := carries) hlt
        have hcr := crew_at HC.out hlt
        rw [hx] at ha hn hcr
        have HN := Lib.hid hn
        have HX := Lib.hid hx
        clear hx hn
        obtain ⟨xi, xs, xn, xb⟩ := x
        dsimp only at hcr
        obtain ⟨hc1, hc2, hc3⟩ := hcr
        cases xb <;> go_wp2_with (go_at_call 110; refine (HA.out _ (HV.out.grown HG.out)).mono ?_; rintro e w3 ⟨rfl, hg⟩; have HG3 := Lib.hid (grownN_trans HG.out hg); clear hg; obtain ⟨d0, d1, d2, d3⟩ := atM_grown HV.out HG3.out hlt HX.out; dsimp only at d0 d1 d2 d3)
        all_goals
          go_roundw
          case rel => exact ⟨j + 1, by omega, by go_num, by rw [HN.out, ← HY.out]; simp [carries], HG3⟩
          case measure => simp [intOf]; omega
      · have : j = L.length := by omega
        subst this
        go_wp2
        go_ret
        exact ⟨ret_i64 (by rw [HF.out, HY.out]), HG.out⟩
end Go.Proofs.YtoanhnklemlfmaaDoor.CrS

/- Contracts of counts and sums over lists of numbers, of the program and of its model. -/
import Derived.Test.YtinpnedijmmpgaaSigF
import Derived.Test.YtinpnedijmmpgaaMin
import Derived.Test.YtinpnedijmmpgaaCros
import Derived.Test.YtinpnedijmmpgaaTwo
import Derived.IntWalk
import Derived.Deep.QuietTactic
import Derived.BigQuiet
namespace Go.Proofs.Ytinpnedijmmpgaa.SigI
open Go.RowKit Kit Rw Sig Md Mb

theorem sMax_any (a b : Int) (w : World) : Calls Try.prog 62 #[.int .i64 a, .int .i64 b] w fun e w' => e = .returned (.int .i64 (if a < b then b else a)) ∧ w = w' := by
  by_cases h : a < b
  · rw [if_pos h]
    go_enter Try.func62, Try.ntmps62
    go_wp2
    go_ret
    exact ⟨rfl, rfl⟩
  · rw [if_neg h]
    go_enter Try.func62, Try.ntmps62
    go_wp2
    go_ret
    exact ⟨rfl, rfl⟩
theorem sMin_any (a b : Int) (w : World) : Calls Try.prog 64 #[.int .i64 a, .int .i64 b] w fun e w' => e = .returned (.int .i64 (if b < a then b else a)) ∧ w = w' := by
  by_cases h : b < a
  · rw [if_pos h]
    go_enter Try.func64, Try.ntmps64
    go_wp2
    go_ret
    exact ⟨rfl, rfl⟩
  · rw [if_neg h]
    go_enter Try.func64, Try.ntmps64
    go_wp2
    go_ret
    exact ⟨rfl, rfl⟩

set_option maxRecDepth 20000 in
set_option maxHeartbeats 1000000 in
theorem sLong_any (w : World) (v : Value) (L : List Int) (hv : Sees .i64 w v L) :
    Calls Try.prog 32 #[v] w fun e w' => e = .returned (.int .i64 (longs L)) ∧ w.grownBy w' none := by
  have hl := hv.len
  obtain ⟨a, n, cap, rfl, HN⟩ := hv.shape
  have HV := Lib.hid hv
  have hl2 : n ≤ 9223372036854775807 := by rw [← HN.out]; exact hl
  clear hv hl
  go_enter Try.func32, Try.ntmps32
  go_wp2
  go_loopw [3, 4] (fun s i wr => ∃ j : Nat, j ≤ n ∧ i = .int .i64 j ∧ s = .int .i64 (addTo longOne 0 L j) ∧ Hid (w.grownBy wr none)) (fun _ i _ => n - (intOf i).toNat)
  case atStart => exact ⟨0, Nat.zero_le _, rfl, rfl, World.grownBy.refl _ _⟩
  case round =>
      rename_i _ _ wr
      obtain ⟨j, hj, rfl, rfl, HG⟩ := hrel
      obtain ⟨p, hp⟩ : ∃ p, p = addTo longOne 0 L j := ⟨_, rfl⟩
      rw [← hp]
      have HP := Lib.hid hp
      clear hp
      by_cases hlt : j < n
      · obtain ⟨x, hx⟩ : ∃ x, x = L.getD j 0 := ⟨_, rfl⟩
        obtain ⟨b, o, rfl, hcj⟩ := (HV.out.grown HG.out).at_row (j := j) (by rw [HN.out]; exact hlt)
        rw [← hx] at hcj
        have HS1 : Hid (addTo longOne 0 L (j + 1) = longOne j p x) := by show _ = _; simp only [addTo]; rw [← HP.out, ← hx]
        clear hx
        by_cases hq : x = 2
        · have HS2 : Hid (addTo longOne 0 L (j + 1) = wrap64 (p + 1)) := by show _ = _; rw [HS1.out]; unfold longOne; rw [if_pos hq]
          go_wp2
          go_roundw
          case rel => exact ⟨j + 1, by omega, by go_num, by rw [HS2.out], HG⟩
          case measure => simp [intOf]; omega
        · have HS2 : Hid (addTo longOne 0 L (j + 1) = p) := by show _ = _; rw [HS1.out]; unfold longOne; rw [if_neg hq]
          go_wp2
          go_roundw
          case rel => exact ⟨j + 1, by omega, by go_num, by rw [HS2.out], HG⟩
          case measure => simp [intOf]; omega
      · have hjn : n = j := by omega
        subst hjn
        go_wp2
        go_ret
        exact ⟨ret_i64 (by rw [HP.out]; show _ = addTo _ _ _ _; rw [HN.out]), HG.out⟩

set_option maxRecDepth 20000 in
set_option maxHeartbeats 1000000 in
theorem iLong_any (w : World) (v : Value) (L : List Int) (hv : Sees .i64 w v L) :
    Calls Try.prog 34 #[v] w fun e w' => e = .returned (.int .i64 (longs L)) ∧ w.grownBy w' none := by
  have hl := hv.len
  obtain ⟨a, n, cap, rfl, HN⟩ := hv.shape
  have HV := Lib.hid hv
  have hl2 : n ≤ 9223372036854775807 := by rw [← HN.out]; exact hl
  clear hv hl
  go_enter Try.func34, Try.ntmps34
  go_wp2
  go_loopw [3, 8] (fun s i wr => ∃ j : Nat, j ≤ n ∧ i = .int .i64 j ∧ s = .int .i64 (addTo longOne 0 L j) ∧ Hid (w.grownBy wr none)) (fun _ i _ => n - (intOf i).toNat)
  case atStart => exact ⟨0, Nat.zero_le _, rfl, rfl, World.grownBy.refl _ _⟩
  case round =>
      rename_i _ _ wr
      obtain ⟨j, hj, rfl, rfl, HG⟩ := hrel
      obtain ⟨p, hp⟩ : ∃ p, p = addTo longOne 0 L j := ⟨_, rfl⟩
      rw [← hp]
      have HP := Lib.hid hp
      clear hp
      by_cases hlt : j < n
      · obtain ⟨x, hx⟩ : ∃ x, x = L.getD j 0 := ⟨_, rfl⟩
        obtain ⟨b, o, rfl, hcj⟩ := (HV.out.grown HG.out).at_row (j := j) (by rw [HN.out]; exact hlt)
        rw [← hx] at hcj
        have HS1 : Hid (addTo longOne 0 L (j + 1) = longOne j p x) := by show _ = _; simp only [addTo]; rw [← HP.out, ← hx]
        clear hx
        by_cases hq : x = 2
        · have HS2 : Hid (addTo longOne 0 L (j + 1) = wrap64 (p + 1)) := by show _ = _; rw [HS1.out]; unfold longOne; rw [if_pos hq]
          go_wp2
          go_roundw
          case rel => exact ⟨j + 1, by omega, by go_num, by rw [HS2.out], HG⟩
          case measure => simp [intOf]; omega
        · have HS2 : Hid (addTo longOne 0 L (j + 1) = p) := by show _ = _; rw [HS1.out]; unfold longOne; rw [if_neg hq]
          go_wp2
          go_roundw
          case rel => exact ⟨j + 1, by omega, by go_num, by rw [HS2.out], HG⟩
          case measure => simp [intOf]; omega
      · have hjn : n = j := by omega
        subst hjn
        go_wp2
        go_ret
        exact ⟨ret_i64 (by rw [HP.out]; show _ = addTo _ _ _ _; rw [HN.out]), HG.out⟩

set_option maxRecDepth 20000 in
set_option maxHeartbeats 1000000 in
theorem sTime_any (w : World) (v : Value) (L : List Int) (hv : Sees .i64 w v L) :
    Calls Try.prog 40 #[v] w fun e w' => e = .returned (.int .i64 (signTime L)) ∧ w.grownBy w' none := by
  have hl := hv.len
  obtain ⟨a, n, cap, rfl, HN⟩ := hv.shape
  have HV := Lib.hid hv
  have hl2 : n ≤ 9223372036854775807 := by rw [← HN.out]; exact hl
  clear hv hl
  obtain ⟨q, hq0⟩ : ∃ q, q = pauses n := ⟨_, rfl⟩
  have hqd : (if (0 : Int) < (n : Int) - 1 then (n : Int) - 1 else 0) = q := by rw [hq0]; rfl
  have hw : wrap64 ((n : Int) - 1) = (n : Int) - 1 := Sig.wrap_in (by omega)
  have hw2 : IntKind.i64.wrap ((n : Int) - 1) = (n : Int) - 1 := IntWalk.i64_in _ (by omega)
  have HQ : Hid (pauses L.length = q) := by show _ = _; rw [HN.out, hq0]
  have HMX := Lib.hid (sMax_any 0 ((n : Int) - 1))
  rw [hqd] at HMX
  have HQB : Hid (-9223372036854775808 ≤ q ∧ q ≤ 9223372036854775807) := by show _ ∧ _; rw [hq0]; unfold pauses; split <;> omega
  clear hq0 hqd
  go_enter Try.func40, Try.ntmps40
  go_wp2_with fail
  refine (HMX.out _).mono ?_
  rintro e w2 ⟨rfl, rfl⟩
  go_wp2
  go_loopw [3, 4] (fun s i wr => ∃ j : Nat, j ≤ n ∧ i = .int .i64 j ∧ s = .int .i64 (addTo timeOne q L j) ∧ Hid (w.grownBy wr none)) (fun _ i _ => n - (intOf i).toNat)
  case atStart => exact ⟨0, Nat.zero_le _, rfl, rfl, World.grownBy.refl _ _⟩
  case round =>
      rename_i _ _ wr
      obtain ⟨j, hj, rfl, rfl, HG⟩ := hrel
      obtain ⟨p, hp⟩ : ∃ p, p = addTo timeOne q L j := ⟨_, rfl⟩
      rw [← hp]
      have HP := Lib.hid hp
      clear hp
      by_cases hlt : j < n
      · obtain ⟨x, hx⟩ : ∃ x, x = L.getD j 0 := ⟨_, rfl⟩
        obtain ⟨b, o, rfl, hcj⟩ := (HV.out.grown HG.out).at_row (j := j) (by rw [HN.out]; exact hlt)
        rw [← hx] at hcj
        have HS1 : Hid (addTo timeOne q L (j + 1) = timeOne j p x) := by show _ = _; simp only [addTo]; rw [← HP.out, ← hx]
        clear hx
        have HWP : Hid (wrap64 p = p) := by
          show _ = _
          rw [HP.out]
          have hnn : n ≤ 9223372036854775807 := hl2
          cases j with
          | zero => simp only [addTo]; have hq9 := HQB.out; exact Sig.wrap_in hq9
          | succ k => simp only [addTo, timeOne]; exact Sig.wrap_in (Sig.wrap_bd _)
        by_cases h1 : x = 1
        · have HS2 : Hid (addTo timeOne q L (j + 1) = wrap64 (p + 1)) := by show _ = _; rw [HS1.out]; unfold timeOne timeOf; rw [if_pos h1]
          go_wp2
          go_roundw
          case rel => exact ⟨j + 1, by omega, by go_num, by rw [HS2.out], HG⟩
          case measure => simp [intOf]; omega
        · by_cases h2 : x = 2
          · have HS2 : Hid (addTo timeOne q L (j + 1) = wrap64 (p + 3)) := by show _ = _; rw [HS1.out]; unfold timeOne timeOf; rw [if_neg h1, if_pos h2]
            go_wp2
            go_roundw
            case rel => exact ⟨j + 1, by omega, by go_num, by rw [HS2.out], HG⟩
            case measure => simp [intOf]; omega
          · have HS2 : Hid (addTo timeOne q L (j + 1) = p) := by show _ = _; rw [HS1.out]; unfold timeOne timeOf; rw [if_neg h1, if_neg h2, Int.add_zero, HWP.out]
            go_wp2
            go_roundw
            case rel => exact ⟨j + 1, by omega, by go_num, by rw [HS2.out], HG⟩
            case measure => simp [intOf]; omega
      · have hjn : n = j := by omega
        subst hjn
        go_wp2
        go_ret
        exact ⟨ret_i64 (by rw [HP.out]; unfold signTime; rw [HQ.out, HN.out]), HG.out⟩

theorem ret_sym {a b c d : Int} (h : a = c) (h' : b = d) : Ending.returned (.agg #[.int .i64 a, .int .i64 b]) = .returned (.agg #[.int .i64 c, .int .i64 d]) := by rw [h, h']
theorem sym_field (a b : Value) (w : World) : (Instr.field 59 (.agg #[a, b]) 1).run Try.prog w = .ok b w := by kernel_rfl
def digitOf (x : Int) : Int := if x = 2 then 1 else 0
/-- What a flash says. -/
theorem symbol_any (x : Int) (w : World) : Calls Try.prog 60 #[.int .i64 x] w fun e w' => e = .returned (.agg #[.int .i64 (digitOf x), .int .i64 (timeOf x)]) ∧ w.grownBy w' none := by
  by_cases h1 : x = 1
  · have HR : Hid (digitOf x = 0 ∧ timeOf x = 1) := by rw [h1]; exact ⟨rfl, rfl⟩
    skip
    go_enter Try.func60, Try.ntmps60
    go_wp2
    try simp only [Exit.inBlock, Exit.then]
    exact ret_box rfl rfl (box_new w #[.int .i64 0, .int .i64 1] 59) Try.underlying59 rfl (by kernel_rfl) rfl ⟨by rw [HR.out.1, HR.out.2], World.grownBy_alloc w _ none⟩
  · by_cases h2 : x = 2
    · have HR : Hid (digitOf x = 1 ∧ timeOf x = 3) := by rw [h2]; exact ⟨rfl, rfl⟩
      skip
      go_enter Try.func60, Try.ntmps60
      go_wp2
      try simp only [Exit.inBlock, Exit.then]
      exact ret_box rfl rfl (box_new w #[.int .i64 1, .int .i64 3] 59) Try.underlying59 rfl (by kernel_rfl) rfl ⟨by rw [HR.out.1, HR.out.2], World.grownBy_alloc w _ none⟩
    · have HR : Hid (digitOf x = 0 ∧ timeOf x = 0) := by unfold digitOf timeOf; rw [if_neg h1, if_neg h2, if_neg h2]; exact ⟨rfl, rfl⟩
      skip
      go_enter Try.func60, Try.ntmps60
      go_wp2
      try simp only [Exit.inBlock, Exit.then]
      exact ret_box rfl rfl (box_new w #[.int .i64 0, .int .i64 0] 59) Try.underlying59 rfl (by kernel_rfl) rfl ⟨by rw [HR.out.1, HR.out.2], World.grownBy_alloc w _ none⟩

set_option maxRecDepth 20000 in
set_option maxHeartbeats 1000000 in
theorem iTime_any (w : World) (v : Value) (L : List Int) (hv : Sees .i64 w v L) :
    Calls Try.prog 41 #[v] w fun e w' => e = .returned (.int .i64 (signTime L)) ∧ w.grownBy w' none := by
  have hl := hv.len
  obtain ⟨a, n, cap, rfl, HN⟩ := hv.shape
  have HV := Lib.hid hv
  have hl2 : n ≤ 9223372036854775807 := by rw [← HN.out]; exact hl
  clear hv hl
  obtain ⟨q, hq0⟩ : ∃ q, q = pauses n := ⟨_, rfl⟩
  have hqd : (if (0 : Int) < (n : Int) - 1 then (n : Int) - 1 else 0) = q := by rw [hq0]; rfl
  have hw : wrap64 ((n : Int) - 1) = (n : Int) - 1 := Sig.wrap_in (by omega)
  have hw2 : IntKind.i64.wrap ((n : Int) - 1) = (n : Int) - 1 := IntWalk.i64_in _ (by omega)
  have HQ : Hid (pauses L.length = q) := by show _ = _; rw [HN.out, hq0]
  have hqm : Mn.most 0 ((n : Int) - 1) = q := hqd
  have HMX := Lib.hid (Mn.max_any 0 ((n : Int) - 1))
  rw [hqm] at HMX
  clear hqm
  have HQB : Hid (-9223372036854775808 ≤ q ∧ q ≤ 9223372036854775807) := by show _ ∧ _; rw [hq0]; unfold pauses; split <;> omega
  clear hq0 hqd
  go_enter Try.func41, Try.ntmps41
  go_wp2_with fail
  refine (HMX.out _).mono ?_
  rintro e w2 ⟨rfl, hg⟩
  have HG2 := Lib.hid hg
  clear hg
  go_wp2
  go_loopw [4, 14] (fun s i wr => ∃ j : Nat, j ≤ n ∧ i = .int .i64 j ∧ s = .int .i64 (addTo timeOne q L j) ∧ Hid (w.grownBy wr none)) (fun _ i _ => n - (intOf i).toNat)
  case atStart => exact ⟨0, Nat.zero_le _, rfl, rfl, HG2⟩
  case round =>
      rename_i _ _ wr
      obtain ⟨j, hj, rfl, rfl, HG⟩ := hrel
      obtain ⟨p, hp⟩ : ∃ p, p = addTo timeOne q L j := ⟨_, rfl⟩
      rw [← hp]
      have HP := Lib.hid hp
      clear hp
      by_cases hlt : j < n
      · obtain ⟨x, hx⟩ : ∃ x, x = L.getD j 0 := ⟨_, rfl⟩
        obtain ⟨b, o, rfl, hcj⟩ := (HV.out.grown HG.out).at_row (j := j) (by rw [HN.out]; exact hlt)
        rw [← hx] at hcj
        have HS1 : Hid (addTo timeOne q L (j + 1) = timeOne j p x) := by show _ = _; simp only [addTo]; rw [← HP.out, ← hx]
        clear hx
        have HC := Lib.hid (fun w => symbol_any x w)
        have HS2 : Hid (addTo timeOne q L (j + 1) = wrap64 (p + timeOf x)) := HS1
        obtain ⟨tx, htx⟩ : ∃ tx, tx = timeOf x := ⟨_, rfl⟩
        rw [← htx] at HC HS2
        clear htx
        have hfl : ∀ (a b : Value) (w : World), (Instr.field 59 (.agg #[a, b]) 1).run Try.prog w = .ok b w := fun _ _ _ => sym_field _ _ _
        go_wp2_with fail
        refine (HC.out _).mono ?_
        rintro e w3 ⟨rfl, hg⟩
        have HG3 := Lib.hid (grownN_trans HG.out hg)
        clear hg
        go_wp2
        go_roundw
        case rel => exact ⟨j + 1, by omega, by go_num, by rw [HS2.out], HG3⟩
        case measure => simp [intOf]; omega
      · have hjn : n = j := by omega
        subst hjn
        go_wp2
        go_ret
        exact ⟨ret_i64 (by rw [HP.out]; unfold signTime; rw [HQ.out, HN.out]), HG.out⟩

set_option maxRecDepth 20000 in
set_option maxHeartbeats 1000000 in
theorem sSum_any (w : World) (v : Value) (L : List Int) (hv : Sees .i64 w v L) :
    Calls Try.prog 42 #[v] w fun e w' => e = .returned (.int .i64 (sumOf L)) ∧ w.grownBy w' none := by
  have hl := hv.len
  obtain ⟨a, n, cap, rfl, HN⟩ := hv.shape
  have HV := Lib.hid hv
  have hl2 : n ≤ 9223372036854775807 := by rw [← HN.out]; exact hl
  clear hv hl
  go_enter Try.func42, Try.ntmps42
  go_wp2
  go_loopw [3, 4] (fun s i wr => ∃ j : Nat, j ≤ n ∧ i = .int .i64 j ∧ s = .int .i64 (addTo sumOne 0 L j) ∧ Hid (w.grownBy wr none)) (fun _ i _ => n - (intOf i).toNat)
  case atStart => exact ⟨0, Nat.zero_le _, rfl, rfl, World.grownBy.refl _ _⟩
  case round =>
      rename_i _ _ wr
      obtain ⟨j, hj, rfl, rfl, HG⟩ := hrel
      obtain ⟨p, hp⟩ : ∃ p, p = addTo sumOne 0 L j := ⟨_, rfl⟩
      rw [← hp]
      have HP := Lib.hid hp
      clear hp
      by_cases hlt : j < n
      · obtain ⟨x, hx⟩ : ∃ x, x = L.getD j 0 := ⟨_, rfl⟩
        obtain ⟨b, o, rfl, hcj⟩ := (HV.out.grown HG.out).at_row (j := j) (by rw [HN.out]; exact hlt)
        rw [← hx] at hcj
        have HS1 : Hid (addTo sumOne 0 L (j + 1) = sumOne j p x) := by show _ = _; simp only [addTo]; rw [← HP.out, ← hx]
        clear hx
        have HS2 : Hid (addTo sumOne 0 L (j + 1) = wrap64 (p + capped x)) := HS1
        obtain ⟨y, hy⟩ : ∃ y, y = (if x < 10000 then x else 10000) := ⟨_, rfl⟩
        have HM1 := Lib.hid (fun w => sMin_any 10000 x w)
        rw [← hy] at HM1
        have HM2 := Lib.hid (fun w => sMax_any (-10000) y w)
        have HCP : Hid ((if (-10000 : Int) < y then y else -10000) = capped x) := by show _ = _; unfold capped; rw [← hy]
        rw [HCP.out] at HM2
        clear hy
        go_wp2_with fail
        refine (HM1.out _).mono ?_
        rintro e w3 ⟨rfl, rfl⟩
        go_wp2_with fail
        refine (HM2.out _).mono ?_
        rintro e w3 ⟨rfl, rfl⟩
        go_wp2
        go_roundw
        case rel => exact ⟨j + 1, by omega, by go_num, by rw [HS2.out], HG⟩
        case measure => simp [intOf]; omega
      · have hjn : n = j := by omega
        subst hjn
        go_wp2
        go_ret
        exact ⟨ret_i64 (by rw [HP.out]; show _ = addTo _ _ _ _; rw [HN.out]), HG.out⟩

theorem cap_any (x : Int) (w : World) : Calls Try.prog 66 #[.int .i64 x] w fun e w' => e = .returned (.int .i64 (capped x)) ∧ w.grownBy w' none := by
  obtain ⟨y, hy⟩ : ∃ y, y = (if x < 10000 then x else 10000) := ⟨_, rfl⟩
  have e1 : Mn.least x 10000 = y := by unfold Mn.least; rw [hy]; split <;> split <;> omega
  have HM1 := Lib.hid (fun w => Mn.min_any x 10000 w)
  rw [e1] at HM1
  have e2 : Mn.most (-10000) y = capped x := by unfold Mn.most capped; rw [← hy]
  have HM2 := Lib.hid (fun w => Mn.max_any (-10000) y w)
  rw [e2] at HM2
  clear hy e1 e2
  go_enter Try.func66, Try.ntmps66
  go_wp2_with fail
  refine (HM1.out _).mono ?_
  rintro e w3 ⟨rfl, hg⟩
  have HG3 := Lib.hid hg
  clear hg
  go_wp2_with fail
  refine (HM2.out _).mono ?_
  rintro e w4 ⟨rfl, hg⟩
  have HG4 := Lib.hid (grownN_trans HG3.out hg)
  clear hg
  go_wp2
  go_ret
  exact ⟨rfl, HG4.out⟩

set_option maxRecDepth 20000 in
set_option maxHeartbeats 1000000 in
theorem por_any (w : World) (v : Value) (L : List Int) (hv : Sees .i64 w v L) :
    Calls Try.prog 65 #[v, .func (.func 66) #[] #[]] w fun e w' => e = .returned (.int .i64 (sumOf L)) ∧ w.grownBy w' none := by
  have hl := hv.len
  obtain ⟨a, n, cap, rfl, HN⟩ := hv.shape
  have HV := Lib.hid hv
  have hl2 : n ≤ 9223372036854775807 := by rw [← HN.out]; exact hl
  clear hv hl
  go_enter Try.func65, Try.ntmps65
  go_wp2
  go_loopw [5, 10] (fun s i wr => ∃ j : Nat, j ≤ n ∧ i = .int .i64 j ∧ s = .int .i64 (addTo sumOne 0 L j) ∧ Hid (w.grownBy wr none)) (fun _ i _ => n - (intOf i).toNat)
  case atStart => exact ⟨0, Nat.zero_le _, rfl, rfl, World.grownBy.refl _ _⟩
  case round =>
      rename_i _ _ wr
      obtain ⟨j, hj, rfl, rfl, HG⟩ := hrel
      obtain ⟨p, hp⟩ : ∃ p, p = addTo sumOne 0 L j := ⟨_, rfl⟩
      rw [← hp]
      have HP := Lib.hid hp
      clear hp
      by_cases hlt : j < n
      · obtain ⟨x, hx⟩ : ∃ x, x = L.getD j 0 := ⟨_, rfl⟩
        obtain ⟨b, o, rfl, hcj⟩ := (HV.out.grown HG.out).at_row (j := j) (by rw [HN.out]; exact hlt)
        rw [← hx] at hcj
        have HS1 : Hid (addTo sumOne 0 L (j + 1) = sumOne j p x) := by show _ = _; simp only [addTo]; rw [← HP.out, ← hx]
        clear hx
        have HC := Lib.hid (fun w => cap_any x w)
        have HS2 : Hid (addTo sumOne 0 L (j + 1) = wrap64 (p + capped x)) := HS1
        obtain ⟨tx, htx⟩ : ∃ tx, tx = capped x := ⟨_, rfl⟩
        rw [← htx] at HC HS2
        clear htx
        go_wp2_with (go_at_call 66; refine (HC.out _).mono ?_; rintro e w3 ⟨rfl, hg⟩; have HG3 := Lib.hid (grownN_trans HG.out hg); clear hg)
        go_roundw
        case rel => exact ⟨j + 1, by omega, by go_num, by rw [HS2.out], HG3⟩
        case measure => simp [intOf]; omega
      · have hjn : n = j := by omega
        subst hjn
        go_wp2
        go_ret
        exact ⟨ret_i64 (by rw [HP.out]; show _ = addTo _ _ _ _; rw [HN.out]), HG.out⟩

theorem iSum_any (w : World) (v : Value) (L : List Int) (hv : Sees .i64 w v L) :
    Calls Try.prog 43 #[v] w fun e w' => e = .returned (.int .i64 (sumOf L)) ∧ w.grownBy w' none := by
  have HA := Lib.hid (por_any w v L hv)
  clear hv
  go_enter Try.func43, Try.ntmps43
  go_wp2_with fail
  refine HA.out.mono ?_
  rintro e w3 ⟨rfl, hg⟩
  have HG3 := Lib.hid hg
  clear hg
  go_wp2
  go_ret
  exact ⟨rfl, HG3.out⟩

set_option maxRecDepth 20000 in
set_option maxHeartbeats 1000000 in
theorem sSumAt_any (w : World) (v : Value) (u : Value) (L : List Int) (B : List Int) (hv : Sees .i64 w v L) (hu : Sees .i64 w u B) :
    Calls Try.prog 44 #[v, u] w fun e w' => e = .returned (.int .i64 (sumAt L B)) ∧ w.grownBy w' none := by
  have hl := hv.len
  obtain ⟨a, n, cap, rfl, HN⟩ := hv.shape
  have HV := Lib.hid hv
  have hl2 : n ≤ 9223372036854775807 := by rw [← HN.out]; exact hl
  clear hv hl
  have HU := Lib.hid hu
  clear hu
  go_enter Try.func44, Try.ntmps44
  go_wp2
  go_loopw [5, 6] (fun s i wr => ∃ j : Nat, j ≤ n ∧ i = .int .i64 j ∧ s = .int .i64 (addTo (atOne B) 0 L j) ∧ Hid (w.grownBy wr none)) (fun _ i _ => n - (intOf i).toNat)
  case atStart => exact ⟨0, Nat.zero_le _, rfl, rfl, World.grownBy.refl _ _⟩
  case round =>
      rename_i _ _ wr
      obtain ⟨j, hj, rfl, rfl, HG⟩ := hrel
      obtain ⟨p, hp⟩ : ∃ p, p = addTo (atOne B) 0 L j := ⟨_, rfl⟩
      rw [← hp]
      have HP := Lib.hid hp
      clear hp
      by_cases hlt : j < n
      · obtain ⟨x, hx⟩ : ∃ x, x = L.getD j 0 := ⟨_, rfl⟩
        obtain ⟨b, o, rfl, hcj⟩ := (HV.out.grown HG.out).at_row (j := j) (by rw [HN.out]; exact hlt)
        rw [← hx] at hcj
        have HS1 : Hid (addTo (atOne B) 0 L (j + 1) = (atOne B) j p x) := by show _ = _; simp only [addTo]; rw [← HP.out, ← hx]
        clear hx
        have HH := Lib.hid (Cros.sHas_any wr u (j : Int) B (HU.out.grown HG.out))
        cases hd : decide ((j : Int) ∈ B)
        · have HS2 : Hid (addTo (atOne B) 0 L (j + 1) = p) := by show _ = _; rw [HS1.out]; unfold atOne; rw [hd]; rfl
          rw [hd] at HH
          clear hd
          go_wp2_with fail
          refine HH.out.mono ?_
          rintro e w3 ⟨rfl, rfl⟩
          go_wp2
          go_roundw
          case rel => exact ⟨j + 1, by omega, by go_num, by rw [HS2.out], HG⟩
          case measure => simp [intOf]; omega
        · have HS2 : Hid (addTo (atOne B) 0 L (j + 1) = wrap64 (p + x)) := by show _ = _; rw [HS1.out]; unfold atOne; rw [hd]; rfl
          rw [hd] at HH
          clear hd
          go_wp2_with fail
          refine HH.out.mono ?_
          rintro e w3 ⟨rfl, rfl⟩
          go_wp2
          go_roundw
          case rel => exact ⟨j + 1, by omega, by go_num, by rw [HS2.out], HG⟩
          case measure => simp [intOf]; omega
      · have hjn : n = j := by omega
        subst hjn
        go_wp2
        go_ret
        exact ⟨ret_i64 (by rw [HP.out]; show _ = addTo _ _ _ _; rw [HN.out]), HG.out⟩

set_option maxRecDepth 20000 in
set_option maxHeartbeats 1000000 in
theorem sGap_any (w : World) (v : Value) (u : Value) (L : List Int) (B : List Int) (hv : Sees .i64 w v L) (hu : Sees .i64 w u B) :
    Calls Try.prog 46 #[v, u] w fun e w' => e = .returned (.int .i64 (gap L B)) ∧ w.grownBy w' none := by
  have hl := hv.len
  obtain ⟨a, n, cap, rfl, HN⟩ := hv.shape
  have HV := Lib.hid hv
  have hl2 : n ≤ 9223372036854775807 := by rw [← HN.out]; exact hl
  clear hv hl
  have HU := Lib.hid hu
  clear hu
  go_enter Try.func46, Try.ntmps46
  go_wp2
  go_loopw [5, 6] (fun s i wr => ∃ j : Nat, j ≤ n ∧ i = .int .i64 j ∧ s = .int .i64 (addTo (gapOne B) 0 L j) ∧ Hid (w.grownBy wr none)) (fun _ i _ => n - (intOf i).toNat)
  case atStart => exact ⟨0, Nat.zero_le _, rfl, rfl, World.grownBy.refl _ _⟩
  case round =>
      rename_i _ _ wr
      obtain ⟨j, hj, rfl, rfl, HG⟩ := hrel
      obtain ⟨p, hp⟩ : ∃ p, p = addTo (gapOne B) 0 L j := ⟨_, rfl⟩
      rw [← hp]
      have HP := Lib.hid hp
      clear hp
      by_cases hlt : j < n
      · obtain ⟨x, hx⟩ : ∃ x, x = L.getD j 0 := ⟨_, rfl⟩
        obtain ⟨b, o, rfl, hcj⟩ := (HV.out.grown HG.out).at_row (j := j) (by rw [HN.out]; exact hlt)
        rw [← hx] at hcj
        have HS1 : Hid (addTo (gapOne B) 0 L (j + 1) = (gapOne B) j p x) := by show _ = _; simp only [addTo]; rw [← HP.out, ← hx]
        clear hx
        have HH := Lib.hid (Cros.sHas_any wr u (j : Int) B (HU.out.grown HG.out))
        cases hd : decide ((j : Int) ∈ B)
        · have HS2 : Hid (addTo (gapOne B) 0 L (j + 1) = wrap64 (p - x)) := by show _ = _; rw [HS1.out]; unfold gapOne; rw [hd]; rfl
          rw [hd] at HH
          clear hd
          go_wp2_with fail
          refine HH.out.mono ?_
          rintro e w3 ⟨rfl, rfl⟩
          go_wp2
          go_roundw
          case rel => exact ⟨j + 1, by omega, by go_num, by rw [HS2.out], HG⟩
          case measure => simp [intOf]; omega
        · have HS2 : Hid (addTo (gapOne B) 0 L (j + 1) = wrap64 (p + x)) := by show _ = _; rw [HS1.out]; unfold gapOne; rw [hd]; rfl
          rw [hd] at HH
          clear hd
          go_wp2_with fail
          refine HH.out.mono ?_
          rintro e w3 ⟨rfl, rfl⟩
          go_wp2
          go_roundw
          case rel => exact ⟨j + 1, by omega, by go_num, by rw [HS2.out], HG⟩
          case measure => simp [intOf]; omega
      · have hjn : n = j := by omega
        subst hjn
        have HGP : Hid (gap L B = if p < -p then wrap64 (-p) else p) := by
          show _ = _
          have hb := gapTo_bd L B
          have e : gapTo L B = p := by unfold gapTo; rw [HN.out, HP.out]
          rw [e] at hb
          unfold gap absW
          rw [e]
          split <;> split <;> first | rfl | omega
        have HPB : Hid (-9223372036854775808 ≤ p ∧ p ≤ 9223372036854775807) := by
          have hb := gapTo_bd L B
          have e : gapTo L B = p := by unfold gapTo; rw [HN.out, HP.out]
          rw [e] at hb; exact hb
        obtain ⟨m, hm⟩ : ∃ m, m = (if p < wrap64 (-p) then wrap64 (-p) else p) := ⟨_, rfl⟩
        have HMX := Lib.hid (fun w => sMax_any p (wrap64 (-p)) w)
        rw [← hm] at HMX
        have HR : Hid (gap L B = m) := by
          show _ = _
          have hb := HPB.out
          rw [HGP.out, hm]
          by_cases h0 : p = -9223372036854775808
          · subst h0; simp [wrap64]
          · rw [Sig.wrap_in (by omega)]
        clear hm
        go_wp2_with fail
        refine (HMX.out _).mono ?_
        rintro e w3 ⟨rfl, rfl⟩
        go_wp2
        go_ret
        exact ⟨ret_i64 HR.out.symm, HG.out⟩

set_option maxRecDepth 20000 in
set_option maxHeartbeats 1000000 in
theorem iSumAt_any (w : World) (v : Value) (u : Value) (L : List Int) (B : List Int) (hv : Sees .i64 w v L) (hu : Sees .i64 w u B) (hB : B.length ≤ 100000000) :
    Calls Try.prog 45 #[v, u] w fun e w' => e = .returned (.int .i64 (sumAt L B)) ∧ w.grownBy w' none := by
  have hl := hv.len
  obtain ⟨a, n, cap, rfl, HN⟩ := hv.shape
  have HV := Lib.hid hv
  have hl2 : n ≤ 9223372036854775807 := by rw [← HN.out]; exact hl
  clear hv hl
  have HS := Lib.hid (Cros.setOf_any w u B hu hB)
  clear hu
  go_enter Try.func45, Try.ntmps45
  go_wp2_with fail
  refine HS.out.mono ?_
  rintro e w1 ⟨mb, rfl, hm, hmb, hg⟩
  have HM := Lib.hid hm
  have HG1 := Lib.hid hg
  clear hm hmb hg HS
  go_wp2
  go_loopw [6, 13] (fun s i wr => ∃ j : Nat, j ≤ n ∧ i = .int .i64 j ∧ s = .int .i64 (addTo (atOne B) 0 L j) ∧ Hid (IsS wr mb B.length B) ∧ Hid (w.grownBy wr none)) (fun _ i _ => n - (intOf i).toNat)
  case atStart => exact ⟨0, Nat.zero_le _, rfl, rfl, HM, HG1⟩
  case round =>
      rename_i _ _ wr
      obtain ⟨j, hj, rfl, rfl, HM, HG⟩ := hrel
      obtain ⟨p, hp⟩ : ∃ p, p = addTo (atOne B) 0 L j := ⟨_, rfl⟩
      rw [← hp]
      have HP := Lib.hid hp
      clear hp
      by_cases hlt : j < n
      · obtain ⟨x, hx⟩ : ∃ x, x = L.getD j 0 := ⟨_, rfl⟩
        obtain ⟨b, o, rfl, hcj⟩ := (HV.out.grown HG.out).at_row (j := j) (by rw [HN.out]; exact hlt)
        rw [← hx] at hcj
        have HS1 : Hid (addTo (atOne B) 0 L (j + 1) = (atOne B) j p x) := by show _ = _; simp only [addTo]; rw [← HP.out, ← hx]
        clear hx
        have hjw : (Lit.int .i64 (j : Int)).wf = true := i64_mk (by omega)
        have HJW := Lib.hid hjw
        clear hjw
        cases hd : decide ((j : Int) ∈ B)
        · have HS2 : Hid (addTo (atOne B) 0 L (j + 1) = p) := by show _ = _; rw [HS1.out]; unfold atOne; rw [hd]; rfl
          go_wp2_with (at_lookup; go_loud (refine wpS_lookup _ rfl _ _ 66 rfl Try.underlying66 mb B.length _ rfl HM.out (j : Int) HJW.out rfl ?_); rw [hd])
          go_roundw
          case rel => exact ⟨j + 1, by omega, by go_num, by rw [HS2.out], HM, HG⟩
          case measure => simp [intOf]; omega
        · have HS2 : Hid (addTo (atOne B) 0 L (j + 1) = wrap64 (p + x)) := by show _ = _; rw [HS1.out]; unfold atOne; rw [hd]; rfl
          go_wp2_with (at_lookup; go_loud (refine wpS_lookup _ rfl _ _ 66 rfl Try.underlying66 mb B.length _ rfl HM.out (j : Int) HJW.out rfl ?_); rw [hd])
          go_roundw
          case rel => exact ⟨j + 1, by omega, by go_num, by rw [HS2.out], HM, HG⟩
          case measure => simp [intOf]; omega
      · have hjn : n = j := by omega
        subst hjn
        go_wp2
        go_ret
        exact ⟨ret_i64 (by rw [HP.out]; show _ = addTo _ _ _ _; rw [HN.out]), HG.out⟩

set_option maxRecDepth 20000 in
set_option maxHeartbeats 1000000 in
theorem iGap_any (w : World) (v : Value) (u : Value) (L : List Int) (B : List Int) (hv : Sees .i64 w v L) (hu : Sees .i64 w u B) (hB : B.length ≤ 100000000) :
    Calls Try.prog 47 #[v, u] w fun e w' => e = .returned (.int .i64 (gap L B)) ∧ w.grownBy w' none := by
  have hl := hv.len
  obtain ⟨a, n, cap, rfl, HN⟩ := hv.shape
  have HV := Lib.hid hv
  have hl2 : n ≤ 9223372036854775807 := by rw [← HN.out]; exact hl
  clear hl
  have HA := Lib.hid (fun w' (hg : w.grownBy w' none) => iSumAt_any w' _ u L B (hv.grown hg) (hu.grown hg) hB)
  clear hu hv
  go_enter Try.func47, Try.ntmps47
  go_wp2
  go_loopw [5, 12] (fun s i wr => ∃ j : Nat, j ≤ n ∧ i = .int .i64 j ∧ s = .int .i64 (addTo allOne 0 L j) ∧ Hid (w.grownBy wr none)) (fun _ i _ => n - (intOf i).toNat)
  case atStart => exact ⟨0, Nat.zero_le _, rfl, rfl, World.grownBy.refl _ _⟩
  case round =>
      rename_i _ _ wr
      obtain ⟨j, hj, rfl, rfl, HG⟩ := hrel
      obtain ⟨p, hp⟩ : ∃ p, p = addTo allOne 0 L j := ⟨_, rfl⟩
      rw [← hp]
      have HP := Lib.hid hp
      clear hp
      by_cases hlt : j < n
      · obtain ⟨x, hx⟩ : ∃ x, x = L.getD j 0 := ⟨_, rfl⟩
        obtain ⟨b, o, rfl, hcj⟩ := (HV.out.grown HG.out).at_row (j := j) (by rw [HN.out]; exact hlt)
        rw [← hx] at hcj
        have HS1 : Hid (addTo allOne 0 L (j + 1) = allOne j p x) := by show _ = _; simp only [addTo]; rw [← HP.out, ← hx]
        clear hx
        have HS2 : Hid (addTo allOne 0 L (j + 1) = wrap64 (p + x)) := HS1
        go_wp2
        go_roundw
        case rel => exact ⟨j + 1, by omega, by go_num, by rw [HS2.out], HG⟩
        case measure => simp [intOf]; omega
      · have hjn : n = j := by omega
        subst hjn
        obtain ⟨q, hq⟩ : ∃ q, q = sumAt L B := ⟨_, rfl⟩
        obtain ⟨d, hd⟩ : ∃ d, d = wrap64 (q - wrap64 (p - q)) := ⟨_, rfl⟩
        have HD : Hid (gap L B = if d < 0 then wrap64 (-d) else d) := by
          show _ = _
          have e : allOf L = p := by unfold allOf; rw [HN.out, HP.out]
          unfold gap absW
          rw [← gap_two, e, ← hq, ← hd]
        have HC := Lib.hid (HA.out _ HG.out)
        rw [← hq] at HC
        have HDD := Lib.hid hd
        clear hq
        go_wp2_with fail
        refine HC.out.mono ?_
        rintro e w3 ⟨rfl, hg⟩
        have HG3 := Lib.hid (grownN_trans HG.out hg)
        clear hg
        by_cases h0 : d < 0
        · rw [if_pos h0] at HD
          rw [hd] at h0
          have hwr : wrap64 (q - wrap64 (p - q)) < 0 := h0
          go_wp2
          go_ret
          exact ⟨ret_i64 (by rw [HD.out, HDD.out]), HG3.out⟩
        · rw [if_neg h0] at HD
          rw [hd] at h0
          have hwr : ¬ wrap64 (q - wrap64 (p - q)) < 0 := h0
          go_wp2
          go_ret
          exact ⟨ret_i64 (by rw [HD.out, HDD.out]), HG3.out⟩
end Go.Proofs.Ytinpnedijmmpgaa.SigI

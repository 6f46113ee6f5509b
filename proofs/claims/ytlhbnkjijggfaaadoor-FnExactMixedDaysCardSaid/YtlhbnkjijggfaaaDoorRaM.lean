/- Contracts of the levels' names, of the level for so many days, and of mixed days, of the program and of its model. -/
import Derived.Test.YtlhbnkjijggfaaaDoorRat
namespace Go.Proofs.YtlhbnkjijggfaaaDoor.Rat
open Go.RowKit Kit Rw Rg Crw Md Four

set_option maxRecDepth 20000 in
set_option maxHeartbeats 2000000 in
theorem sName_any (w : World) (k : Int) (hk : -9223372036854775808 ≤ k ∧ k ≤ 9223372036854775807) :
    Calls Tryd.prog 46 #[.int .i64 k] w fun e w' => e = .returned (.string (nameOf k)) ∧ w.grownBy w' none := by
  by_cases h : 0 ≤ k ∧ k ≤ 2
  · have HG := Lib.hid (World.grownBy_alloc w (.cells #[.string ⟨#[102, 117, 108, 108]⟩, .string ⟨#[104, 97, 108, 102]⟩, .string ⟨#[116, 104, 105, 114, 100]⟩] 9 (0, 0)) none)
    have hin := l1In_yes (n := k) (l := 0) (h := 2) w h
    obtain rfl | rfl | rfl : k = 0 ∨ k = 1 ∨ k = 2 := by omega
    all_goals
      have HIN := Lib.hid hin
      clear hin h
      go_enter Tryd.func46, Tryd.ntmps46
      go_wp2_with fail
      refine HIN.out.mono ?_
      rintro e w' ⟨rfl, rfl⟩
      go_wp2
      go_ret
      exact ⟨rfl, HG.out⟩
  · have HR := Lib.hid (none_of h)
    have HIN := Lib.hid (l1In_no (n := k) (l := 0) (h := 2) w h)
    clear h
    go_enter Tryd.func46, Tryd.ntmps46
    go_wp2_with fail
    refine HIN.out.mono ?_
    rintro e w' ⟨rfl, rfl⟩
    go_wp2
    go_ret
    exact ⟨by rw [HR.out.1]; rfl, World.grownBy.refl _ _⟩
theorem ration_field (a b : Value) (w : World) : (Instr.field 88 (.agg #[a, b]) 0).run Tryd.prog w = .ok a w := by kernel_rfl
set_option maxRecDepth 20000 in
set_option maxHeartbeats 2000000 in
theorem iName_any (w : World) (k : Int) (hk : -9223372036854775808 ≤ k ∧ k ≤ 9223372036854775807) (hv : VW w) :
    Calls Tryd.prog 47 #[.int .i64 k] w fun e w' => e = .returned (.string (nameOf k)) ∧ w.grownBy w' none := by
  have HA := Lib.hid (at_any w k hv)
  have hfd := fun w => ration_field (.string (nameOf k)) (.int .i64 (divOf k)) w
  obtain ⟨z, hz⟩ : ∃ z, z = nameOf k := ⟨_, rfl⟩
  obtain ⟨d, hd⟩ : ∃ d, d = divOf k := ⟨_, rfl⟩
  rw [← hz, ← hd] at HA hfd
  have HZ := Lib.hid hz
  clear hv hz hd
  go_enter Tryd.func47, Tryd.ntmps47
  go_wp2_with fail
  refine HA.out.mono ?_
  rintro e w1 ⟨rfl, hg⟩
  have HG := Lib.hid hg
  clear hg
  go_wp2
  go_ret
  exact ⟨by rw [HZ.out]; rfl, HG.out⟩

/-! the level for so many days -/
def levelFor (L : List Mem) (f d : Int) : Int := if d < 0 then -1 else if d ≤ lastsAt L f 0 then 0 else if d ≤ lastsAt L f 1 then 1 else if d ≤ lastsAt L f 2 then 2 else -1
theorem level_neg {L : List Mem} {f d : Int} (h : d < 0) : levelFor L f d = -1 := if_pos h
theorem level_at {L : List Mem} {f d : Int} {j : Nat} (h : ¬ d < 0) (hj : j < 3) (hb : ∀ m : Nat, m < j → lastsAt L f m < d) (ha : d ≤ lastsAt L f j) : levelFor L f d = j := by
  unfold levelFor
  rw [if_neg h]
  obtain rfl | rfl | rfl : j = 0 ∨ j = 1 ∨ j = 2 := by omega
  · have ha0 : d ≤ lastsAt L f 0 := ha
    rw [if_pos ha0]; rfl
  · have h0 : lastsAt L f 0 < d := hb 0 (by omega)
    have ha0 : d ≤ lastsAt L f 1 := ha
    rw [if_neg (by omega), if_pos ha0]; rfl
  · have h0 : lastsAt L f 0 < d := hb 0 (by omega)
    have h1 : lastsAt L f 1 < d := hb 1 (by omega)
    have ha0 : d ≤ lastsAt L f 2 := ha
    rw [if_neg (by omega), if_neg (by omega), if_pos ha0]; rfl
theorem level_none {L : List Mem} {f d : Int} (h : ¬ d < 0) (hb : ∀ m : Nat, m < 3 → lastsAt L f m < d) : levelFor L f d = -1 := by
  have h0 : lastsAt L f 0 < d := hb 0 (by omega)
  have h1 : lastsAt L f 1 < d := hb 1 (by omega)
  have h2 : lastsAt L f 2 < d := hb 2 (by omega)
  unfold levelFor
  rw [if_neg h, if_neg (by omega), if_neg (by omega), if_neg (by omega)]

set_option maxRecDepth 20000 in
set_option maxHeartbeats 2000000 in
theorem sLevel_any (w : World) (n f : Int) (cv pv : Value) (L : List Mem) (d : Int) (hf : (Lit.int .i64 f).wf = true) (hd : -9223372036854775808 ≤ d ∧ d ≤ 9223372036854775807) (hc : SeesG encM w cv L) :
    Calls Tryd.prog 42 #[.agg #[.int .i64 n, .int .i64 f, cv, pv], .int .i64 d] w fun e w' => e = .returned (.int .i64 (levelFor L f d)) ∧ w.grownBy w' none := by
  have g0 := World.grownBy_alloc w (.cells #[.int .i64 n, .int .i64 f, cv, pv] 50 (0, 0)) (none : Option Nat)
  have b0 := box_new w #[.int .i64 n, .int .i64 f, cv, pv] 50
  have HG := Lib.hid g0
  have HC := Lib.hid hc
  have B0 := Lib.hid b0
  have HF := Lib.hid hf
  have HB := Lib.hid fun k : Int => lastsAt_bd L k (i64_of hf).2
  clear hc g0 b0 hf
  go_enter Tryd.func42, Tryd.ntmps42
  go_wp2
  generalize hW1 : w.alloc (.cells #[.int .i64 n, .int .i64 f, cv, pv] 50 (0, 0)) = w1 at *
  by_cases hneg : d < 0
  · have HR : Hid (levelFor L f d = -1) := level_neg hneg
    go_loopw [5] (fun i wr => i = .int .i64 0 ∧ wr = w1) (fun _ _ => 0)
    case atStart => exact ⟨rfl, rfl⟩
    case round =>
      obtain ⟨rfl, rfl⟩ := hrel
      go_wp2
      go_ret
      exact ⟨ret_i64 HR.out.symm, HG.out⟩
  · go_loopw [5] (fun i wr => ∃ j : Nat, j ≤ 3 ∧ i = .int .i64 j ∧ Hid (∀ m : Nat, m < j → lastsAt L f m < d) ∧ Hid (w1.grownBy wr none)) (fun i _ => 3 - (intOf i).toNat)
    case atStart => exact ⟨0, by omega, rfl, fun _ h => by omega, World.grownBy.refl _ _⟩
    case round =>
      rename_i _ wr
      obtain ⟨j, hj, rfl, HM, HGW⟩ := hrel
      have hd0 : (0 : Int) ≤ d := by omega
      have HG2 := Lib.hid (grownN_trans HG.out HGW.out)
      by_cases hlt : j < 3
      · have hle : (j : Int) ≤ 2 := by omega
        obtain ⟨c0, c1, c2, c3⟩ := four (B0.out.grown HGW.out)
        have HS := Lib.hid (sLasts_any wr n f cv pv L j HF.out (by omega) (HC.out.grown HG2.out))
        have hb := HB.out j
        obtain ⟨q, hq⟩ : ∃ q, q = lastsAt L f j := ⟨_, rfl⟩
        rw [← hq] at HS hb
        have HQ := Lib.hid hq
        clear hq
        by_cases hle2 : d ≤ q
        · have HR : Hid (levelFor L f d = j) := level_at (by omega) hlt HM.out (by rw [← HQ.out]; exact hle2)
          go_wp2_with fail
          refine HS.out.mono ?_
          rintro e w2 ⟨rfl, hg⟩
          have HG3 := Lib.hid (grownN_trans HG2.out hg)
          clear hg
          go_wp2
          go_ret
          exact ⟨ret_i64 HR.out.symm, HG3.out⟩
        · go_wp2_with fail
          refine HS.out.mono ?_
          rintro e w2 ⟨rfl, hg⟩
          have HG3 := Lib.hid (grownN_trans HGW.out hg)
          clear hg
          go_wp2
          go_roundw
          case rel => exact ⟨j + 1, by omega, by go_num, fun m hm => by by_cases e : m = j; · rw [e, ← HQ.out]; omega
                                                                        · exact HM.out m (by omega), HG3⟩
          case measure => simp [intOf]; omega
      · obtain rfl : j = 3 := by omega
        have HR : Hid (levelFor L f d = -1) := level_none (by omega) HM.out
        go_wp2
        go_ret
        exact ⟨ret_i64 HR.out.symm, HG2.out⟩

set_option maxRecDepth 20000 in
set_option maxHeartbeats 2000000 in
theorem iLevel_any (w : World) (n f : Int) (cv pv : Value) (L : List Mem) (d : Int) (hf : (Lit.int .i64 f).wf = true) (hd : -9223372036854775808 ≤ d ∧ d ≤ 9223372036854775807) (hc : SeesG encM w cv L) (hv : VW w) :
    Calls Tryd.prog 43 #[.agg #[.int .i64 n, .int .i64 f, cv, pv], .int .i64 d] w fun e w' => e = .returned (.int .i64 (levelFor L f d)) ∧ w.grownBy w' none := by
  have g0 := World.grownBy_alloc w (.cells #[.int .i64 n, .int .i64 f, cv, pv] 50 (0, 0)) (none : Option Nat)
  have b0 := box_new w #[.int .i64 n, .int .i64 f, cv, pv] 50
  have HG := Lib.hid g0
  have HC := Lib.hid hc
  have HV := Lib.hid hv
  have B0 := Lib.hid b0
  have HF := Lib.hid hf
  have HB := Lib.hid fun k : Int => lastsAt_bd L k (i64_of hf).2
  clear hc g0 b0 hf hv
  by_cases hneg : d < 0
  · have HR : Hid (levelFor L f d = -1) := level_neg hneg
    go_enter Tryd.func43, Tryd.ntmps43
    go_wp2
    go_ret
    exact ⟨ret_i64 HR.out.symm, HG.out⟩
  · go_enter Tryd.func43, Tryd.ntmps43
    go_wp2
    generalize hW1 : w.alloc (.cells #[.int .i64 n, .int .i64 f, cv, pv] 50 (0, 0)) = w1 at *
    go_loopw [8] (fun i wr => ∃ j : Nat, j ≤ 3 ∧ i = .int .i64 j ∧ Hid (∀ m : Nat, m < j → lastsAt L f m < d) ∧ Hid (w1.grownBy wr none)) (fun i _ => 3 - (intOf i).toNat)
    case atStart => exact ⟨0, by omega, rfl, fun _ h => by omega, World.grownBy.refl _ _⟩
    case round =>
      rename_i _ wr
      obtain ⟨j, hj, rfl, HM, HGW⟩ := hrel
      have HG2 := Lib.hid (grownN_trans HG.out HGW.out)
      by_cases hlt : j < 3
      · have hle : (j : Int) < 3 := by omega
        obtain ⟨c0, c1, c2, c3⟩ := four (B0.out.grown HGW.out)
        have HS := Lib.hid (iLasts_any wr n f cv pv L j HF.out (by omega) (HC.out.grown HG2.out) (HV.out.grown HG2.out))
        have hb := HB.out j
        obtain ⟨q, hq⟩ : ∃ q, q = lastsAt L f j := ⟨_, rfl⟩
        rw [← hq] at HS hb
        have HQ := Lib.hid hq
        clear hq
        by_cases hle2 : d ≤ q
        · have HR : Hid (levelFor L f d = j) := level_at (by omega) hlt HM.out (by rw [← HQ.out]; exact hle2)
          go_wp2_with fail
          refine HS.out.mono ?_
          rintro e w2 ⟨rfl, hg⟩
          have HG3 := Lib.hid (grownN_trans HG2.out hg)
          clear hg
          go_wp2
          go_ret
          exact ⟨ret_i64 HR.out.symm, HG3.out⟩
        · go_wp2_with fail
          refine HS.out.mono ?_
          rintro e w2 ⟨rfl, hg⟩
          have HG3 := Lib.hid (grownN_trans HGW.out hg)
          clear hg
          go_wp2
          go_roundw
          case rel => exact ⟨j + 1, by omega, by go_num, fun m hm => by by_cases e : m = j; · rw [e, ← HQ.out]; omega
                                                                        · exact HM.out m (by omega), HG3⟩
          case measure => simp [intOf]; omega
      · obtain rfl : j = 3 := by omega
        have HR : Hid (levelFor L f d = -1) := level_none (by omega) HM.out
        go_wp2
        go_ret
        exact ⟨ret_i64 HR.out.symm, HG2.out⟩
end Go.Proofs.YtlhbnkjijggfaaaDoor.Rat
